import Derived.Test.YtppibcambhmomaaDoorPp
import Derived.Test.YtppibcambhmomaaDoorP27
import Derived.Test.YtppibcambhmomaaDoorP09
namespace Go.Proofs.YtppibcambhmomaaDoor
open Go.ChangeShapes Go.WideShapes Go.ChangeAt Go.RowKit
set_option maxRecDepth 20000
set_option linter.unusedVariables false
set_option linter.unusedSimpArgs false
def putL (y : Nm) : List Nat := enc y.by.length ++ y.by
def wrL (ys : List Nm) : List Nat := enc ys.length ++ ys.flatMap putL
structure Wl (w W : World) (g4 gW : Nat) (a : Option Addr) (n c : Nat) (L : List Nat) (m : Nat) : Prop where
 wri : Wri W gW w.heap.size a n c L false
 k4 : W.heap[g4]? = some (.cells #[.pointer (some ⟨gW, 0, none⟩)] 70 (0, 0))
 ap : ∀ q, blkOf a = some q -> q ≠ g4
 ne : g4 ≠ gW
 gw : w.heap.size <= gW /\ w.heap.size <= g4
 bel : Below w.heap.size w W
 ln : n <= m
section
variable {w W W' : World} {g4 gW : Nat} {a a' : Option Addr} {n c n' c' : Nat} {L L' : List Nat} {m m' : Nat}
theorem Wl.c4 (h : Wl w W g4 gW a n c L m) : W.cell? ⟨g4, 0, none⟩ = some (.pointer (some ⟨gW, 0, none⟩)) := by simp [World.cell?, h.k4]
theorem Wl.below (h : Wl w W g4 gW a n c L m) (hb : Below W.heap.size W W') : Wl w W' g4 gW a n c L m :=
 ⟨h.wri.below hb, (hb.block g4 (gl h.k4)).trans h.k4, h.ap, h.ne, h.gw, h.bel.trans (hb.mono h.bel.size), h.ln⟩
theorem Wl.step (h : Wl w W g4 gW a n c L m) (hW : Wri W' gW w.heap.size a' n' c' L' false) (hf : Wfr W W' gW a) (hn : New W a a') (hm : L'.length <= m') : Wl w W' g4 gW a' n' c' L' m' := by
 have l4 := (gl h.k4)
 refine ⟨hW, (hf.block g4 l4 h.ne (fun e => (h.ap g4 e.symm) rfl)).trans h.k4, fun q hq => ?_, h.ne, h.gw, Wfr.below h.bel hf h.gw.1 (fun q hq => (h.wri.own.ge q hq).1) h.bel.size, by rw [hW.own.len]; exact hm⟩
 rcases hn q hq with h1 | h1
 . exact h.ap q h1
 . omega
end
theorem putL_len {y : Nm} (hb : Nb y) : (putL y).length <= 2009 := by
 have h1 := by_len hb
 have h2 := enc_nine (n := y.by.length) (by omega)
 unfold putL
 rw [List.length_append]
 omega
def WrR (w w' : World) (E : Nat -> Addr) (X : List Cx) (e : Ending) : Prop :=
 ((∃ x ∈ X, frm x.cm = false) /\ e = .returned (.tuple #[.slice none 0 0, er (E 0)]) /\ Below w.heap.size w w') ∨ (∃ ys g N, X.map Cx.cm = ys.map Nm.cm /\ (∀ y ∈ ys, Nb y /\ frm y.cm = true) /\ e = .returned (.tuple #[.slice (some ⟨g, 0, none⟩) N N, .nilIface]) /\ Blk w' g (sealL (wrL ys)) /\ N = (wrL ys).length + 4 /\ Below w.heap.size w w')
theorem wrL_len {ys : List Nm} (h : ∀ y ∈ ys, Nb y /\ frm y.cm = true) (hn : ys.length <= 4096) : (wrL ys).length <= 10000000 := by
 have h1 : ∀ l : List Nm, (∀ y ∈ l, Nb y /\ frm y.cm = true) -> (l.flatMap putL).length <= l.length * 2009 := by
  intro l
  induction l with
  | nil => intro _; simp
  | cons y l ih =>
    intro hl
    have a := putL_len (hl y (List.mem_cons_self ..)).1
    have b := ih (fun z hz => hl z (List.mem_cons_of_mem _ hz))
    simp only [List.flatMap_cons, List.length_append, List.length_cons]
    omega
 have h2 := h1 ys h
 have h3 := enc_nine (n := ys.length) (by omega)
 unfold wrL
 rw [List.length_append]
 omega
set_option maxHeartbeats 4000000 in
theorem write_n {w : World} {M : Nat -> Prop} {E : Nat -> Addr} {a : Option Addr} {n c : Nat} {X : List Cx} (hE : Hid (Sent w M E)) (hM0 : M 0) (hC : Hid (Cms w 0 a n X)) (hn : n <= 4096) :
  Calls Tryd.prog 16 #[.slice a n c] w fun e w' => WrR w w' E X e := by
 have i1 : ¬ ((4096 : Int) < (n : Int)) := by omega
 have LX : Hid (n = X.length) := hC.out.len
 go_enter Tryd.func16, Tryd.ntmps16
 go_upto_region 3 with (fail)
 go_upto_region 4 with (go_at_call 34; refine (newW_n w w.heap.size).mono ?_; rintro e w2 ⟨gW, rfl, h2⟩)
 obtain ⟨g4, Hg4⟩ := nm (w2.heap.size)
 obtain ⟨w3, Hw3⟩ := nm (w2.alloc (.cells #[.pointer (some ⟨gW, 0, none⟩)] 70))
 have S3 : Hid (Wl w w3 g4 gW none 0 0 [] 0) := by
  have b3 : Below w2.heap.size w2 w3 := by rw [<- Hw3.out]; exact alloc1 w2 _
  refine ⟨h2.out.2.2.below b3, by rw [<- Hw3.out, <- Hg4.out]; exact heap_alloc_new w2 _, (fun q hq => by cases hq), ?_, ⟨h2.out.1, ?_⟩, h2.out.2.1.trans (b3.mono h2.out.2.1.size), Nat.le_refl _⟩
  . have := h2.out.2.2.lt; have := Hg4.out; omega
  . have := h2.out.2.1.size; have := Hg4.out; omega
 rw [Hw3.out, Hg4.out]
 clear h2 Hw3 Hg4
 have p0 := S3.out.c4
 have NN : Hid (n < 9223372036854775808) := by show _ < _; omega
 go_upto_region 5 with (go_at_call 35; refine (num_n (N := n) (show Hid (Wri w3 gW w.heap.size none 0 0 [] false) from S3.out.wri) NN.out (show Hid (w.heap.size <= w3.heap.size) from S3.out.bel.size) (show Hid (0 + 9 <= 140737488352256) from (by show (0 : Nat) + 9 <= 140737488352256; omega))).mono ?_; rintro e w4 ⟨a4, n4, c4, rfl, h4⟩)
 have S4 : Hid (Wl w w4 g4 gW a4 n4 c4 (enc n ++ ([] : List Nm).flatMap putL) 9) := by
  have h := S3.out.step (m' := 9) h4.out.1 h4.out.2.1 h4.out.2.2 (by rw [List.nil_append]; exact enc_nine NN.out)
  rw [List.nil_append] at h
  show Wl w w4 g4 gW a4 n4 c4 (enc n ++ []) 9
  rw [List.append_nil]
  exact h
 clear h4 S3 p0
 go_wp2
 go_loopw [23] (fun ti wr => ∃ (i : Nat) (ai : Option Addr) (ni ci : Nat) (ys : List Nm), i <= n /\ ti = .int .i64 (i : Int) /\ Hid (Wl w wr g4 gW ai ni ci (enc n ++ ys.flatMap putL) (9 + i * 2009)) /\ Hid ((X.take i).map Cx.cm = ys.map Nm.cm /\ ∀ y ∈ ys, Nb y /\ frm y.cm = true)) (fun ti _ => n - (intOf ti).toNat)
 case atStart => exact ⟨0, a4, n4, c4, [], by omega, rfl, S4.out, (by show _ /\ _; exact ⟨by simp, fun y hy => by cases hy⟩)⟩
 case round =>
  obtain ⟨i, ai, ni, ci, ys, hi, rfl, S, HY⟩ := hrel
  clear S4
  by_cases hlt : i < n
  . have i2 : (i : Int) < (n : Int) := by omega
    have CR : Hid (Cms wr 0 a n X) := hC.out.below S.out.bel
    have iX : i < X.length := by have := LX.out; omega
    obtain ⟨b, o, rfl, R1⟩ := CR.out.at_ iX
    obtain ⟨x, Hx⟩ := nm (X[i])
    have MX : x ∈ X := by rw [<- Hx.out]; exact List.getElem_mem iX
    rw [Hx.out] at R1
    obtain ⟨A, HA⟩ : ∃ A, Hid (A = (encX x).toArray) := ⟨_, rfl⟩
    have a18 : A.size = 18 := encX_sz HA.out
    have RA : wr.rangeAt b (o + i * 18) A.toList := by rw [HA.out]; exact R1
    have PX : Hid (Irow wr 0 x.pa x.pn x.cm.ps) := (CR.out.ps x MX).1
    have TK : Hid (X.take (i + 1) = X.take i ++ [x]) := by
     show _ = _
     rw [List.take_succ_eq_append_getElem iX, Hx.out]
    have HMX : Hid (x ∈ X) := MX
    clear R1 MX
    obtain ⟨g6, Hg6⟩ := nm (wr.heap.size)
    obtain ⟨w6, Hw6⟩ := nm ((wr.alloc (.cells #[.int .i64 0,.int .i64 0,.int .i64 0,.int .i64 0,.string ⟨#[]⟩,.string ⟨#[]⟩,.int .i64 0,.int .i64 0,.int .i64 0,.int .i64 0,.int .i64 0,.int .i64 0,.int .i64 0,.string ⟨#[]⟩,.int .i64 0,.slice none 0 0,.int .i64 0,.int .i64 0] 60)).setRow wr.heap.size A)
    have b6 : Hid (Below wr.heap.size wr w6) := by rw [<- Hw6.out]; exact below_setRow (alloc1 wr _) (Nat.le_refl _) A
    have k6 : Hid (w6.heap[g6]? = some (.cells A 60 (0, 0))) := by rw [<- Hw6.out, <- Hg6.out]; exact setRow_heap _ _ _ _ _ _ (heap_alloc_new wr _)
    have S6 : Hid (Wl w w6 g4 gW ai ni ci (enc n ++ ys.flatMap putL) (9 + i * 2009)) := S.out.below b6.out
    have P6 : Hid (Irow w6 0 x.pa x.pn x.cm.ps) := PX.out.below b6.out
    have E6 : Hid (Sent w6 M E) := hE.out.below S6.out.bel
    go_upto_region 8 with first
     | (refine wpList_load_mid (by rfl) 60 (.tmp 25) (by rfl) b (o + i * 18) (by rfl) _ _ RA Tryd.underlying60 rfl (by rw [Array.length_toList]; exact info28 a18) ?_)
     | (refine wpList_store_row (by rfl) 60 (.tmp 6) (.tmp 26) (by rfl) wr.heap.size A (by rfl) (by rfl) 60 _ (heap_alloc_new wr _) (info28 a18) a18.symm (encX_all HA.out) ?_)
    rw [Hw6.out, Hg6.out]
    try simp only [Act.put]
    clear Hw6 Hg6 RA PX CR
    rcases Bool.eq_false_or_eq_true (frm x.cm) with hf | hf
    . obtain ⟨y, hy, hyb⟩ := frm_nat hf
      have HYc : Hid (x.cm = y.cm) := hy
      have HYb : Hid (Nb y) := hyb
      have HF : Hid (frm y.cm = true) := by rw [<- HYc.out]; exact hf
      clear hf hy hyb
      go_upto_region 11 with first
       | (refine wpList_load_row (by rfl) 60 (.tmp 6) (by rfl) g6 (by rfl) 60 A (0, 0) _ k6.out Tryd.underlying60 rfl (info28 a18) ?_)
       | (go_at_call 36; refine (putx_yes HA P6 HYc HYb HF).mono ?_; rintro e w7 ⟨ab, nb, cb, rfl, h7⟩)
      have S7 : Hid (Wl w w7 g4 gW ai ni ci (enc n ++ ys.flatMap putL) (9 + i * 2009)) := S6.out.below h7.out.2.1
      have p0 := S7.out.c4
      have SB : Hid (Sln w7 ab nb y.by) := h7.out.1.sln (by have := h7.out.2.2; omega)
      have ZB : Hid (ab = none -> cb = 0) := h7.out.1.cap0
      have AP : Hid (∀ d off, y.by ≠ [] -> ab = some ⟨d, off, none⟩ -> d ≠ gW /\ some d ≠ blkOf ai) := fun d off _ e => by
       have h8 := (h7.out.1.ge d (by rw [e]; rfl)).1
       have h9 := S6.out.wri.lt
       refine ⟨by omega, fun e2 => ?_⟩
       have h10 := (S6.out.wri.own.ge d e2.symm).2
       omega
      have NB : Hid (nb = y.by.length) := h7.out.1.len
      have LB : Hid (w.heap.size <= w7.heap.size) := S7.out.bel.size
      have BB : Hid (ni + nb + 18 <= 140737488352256) := by have h1 := S7.out.ln; have h2 := h7.out.2.2; show _ <= _; omega
      go_wp2_with (go_at_call 37; refine (wbytes_n (show Hid (Wri w7 gW w.heap.size ai ni ci (enc n ++ ys.flatMap putL) false) from S7.out.wri) SB ZB AP LB BB).mono ?_; rintro e w8 ⟨a8, n8, c8, rfl, h8⟩)
      have S8 : Hid (Wl w w8 g4 gW a8 n8 c8 (enc n ++ (ys ++ [y]).flatMap putL) (9 + (i + 1) * 2009)) := by
       have e : enc n ++ ys.flatMap putL ++ (enc nb ++ y.by) = enc n ++ (ys ++ [y]).flatMap putL := by
        rw [NB.out]
        simp [putL]
       have h := h8.out.1
       rw [e] at h
       refine S7.out.step h h8.out.2.1 h8.out.2.2 ?_
       rw [<- e, List.length_append, <- S7.out.wri.own.len]
       have h1 := S7.out.ln
       have h2 := putL_len HYb.out
       unfold putL at h2
       rw [NB.out]
       omega
      go_roundw
      case rel =>
       refine ⟨i + 1, a8, n8, c8, ys ++ [y], by omega, by go_num, S8.out, (by
        show _ /\ _
        refine ⟨by rw [TK.out, List.map_append, List.map_append, HY.out.1]; simp [HYc.out], fun z hz => ?_⟩
        rcases List.mem_append.1 hz with h | h
        . exact HY.out.2 z h
        . obtain rfl := List.mem_singleton.1 h
          exact ⟨HYb.out, HF.out⟩)⟩
      case measure => simp [intOf]; omega
    . have HF : Hid (frm x.cm = false) := hf
      clear hf
      go_upto_region 10 with first
       | (refine wpList_load_row (by rfl) 60 (.tmp 6) (by rfl) g6 (by rfl) 60 A (0, 0) _ k6.out Tryd.underlying60 rfl (info28 a18) ?_)
       | (go_at_call 36; refine (putx_no HA P6 E6 hM0 HF).mono ?_; rintro e w7 ⟨rfl, h7⟩)
      go_wp2
      go_ret2
      exact .inl ⟨⟨x, HMX.out, HF.out⟩, rfl, S6.out.bel.trans (h7.out.mono S6.out.bel.size)⟩
  . obtain rfl : i = n := by omega
    have HE2 : Hid (X.map Cx.cm = ys.map Nm.cm) := by
     have h := HY.out.1
     rwa [List.take_of_length_le (by have := LX.out; omega)] at h
    have LY : Hid (ys.length = i) := by
     have h := congrArg List.length HE2.out
     simp at h
     have := LX.out
     show _ = _
     omega
    have WE : Hid (enc i ++ ys.flatMap putL = wrL ys) := by
     show _ = _
     unfold wrL
     rw [LY.out]
    have S' : Hid (Wl w wr g4 gW ai ni ci (wrL ys) (9 + i * 2009)) := by rw [<- WE.out]; exact S.out
    have p0 := S'.out.c4
    have NB9 : Hid (ni <= 140737488352256) := by have := S'.out.ln; show _ <= _; omega
    clear hlt
    go_upto_region 16 with (go_at_call 38; refine (done_n (show Hid (Wri wr gW w.heap.size ai ni ci (wrL ys) false) from S'.out.wri) NB9).mono ?_; rintro e w6 ⟨a6, c6, rfl, h6⟩)
    have SB : Hid (Sln w6 a6 ni (wrL ys)) := h6.out.1.sln NB9.out
    have ZB : Hid (a6 = none -> c6 = 0) := h6.out.1.cap0
    go_wp2_with (go_at_call 18; refine (seal_n SB ZB).mono ?_; rintro e w7 ⟨g7, N7, rfl, h7⟩)
    go_ret2
    refine .inr ⟨ys, g7, N7, HE2.out, HY.out.2, rfl, h7.out.2.2.1, ?_, (S'.out.bel.trans (h6.out.2.mono S'.out.bel.size)).trans (h7.out.2.2.2.mono (Nat.le_trans S'.out.bel.size h6.out.2.size))⟩
    rw [h7.out.1, SB.out.len]
theorem refwrite_large {w : World} {a : Option Addr} {n c : Nat} (hn : 4096 < n) :
  Calls Tryd.prog 22 #[.slice a n c] w fun e w' => e = .returned (.tuple #[.slice none 0 0,.int .i64 11]) /\ Hid (Below w.heap.size w w') := by
 have i1 : (4096 : Int) < (n : Int) := by omega
 go_enter Tryd.func22, Tryd.ntmps22
 go_wp2
 go_ret2
 exact ⟨rfl, Below.refl _ _⟩
def WdR (w w' : World) (X : List Cx) (e : Ending) : Prop :=
 ((∃ x ∈ X, frm x.cm = false) /\ e = .returned (.tuple #[.slice none 0 0,.int .i64 18]) /\ Below w.heap.size w w') ∨ (∃ ys b N d, X.map Cx.cm = ys.map Nm.cm /\ (∀ y ∈ ys, Nb y /\ frm y.cm = true) /\ e = .returned (.tuple #[.slice b N d,.int .i64 0]) /\ Own w' w.heap.size b N d (sealL (wrL ys)) /\ N <= 10000100 /\ Below w.heap.size w w')
structure Wq (w W : World) (a : Option Addr) (n c : Nat) (L : List Nat) (m : Nat) : Prop where
 own : Own W w.heap.size a n c L
 bel : Below w.heap.size w W
 ln : n <= m
theorem Wq.below {w W W' : World} {a : Option Addr} {n c : Nat} {L : List Nat} {m : Nat} (h : Wq w W a n c L m) (hb : Below W.heap.size W W') : Wq w W' a n c L m := ⟨h.own.below hb, h.bel.trans (hb.mono h.bel.size), h.ln⟩
set_option maxHeartbeats 4000000 in
theorem refwrite_n {w : World} {a : Option Addr} {n c : Nat} {X : List Cx} (hC : Hid (Cms w 0 a n X)) (hn : n <= 4096) :
  Calls Tryd.prog 22 #[.slice a n c] w fun e w' => WdR w w' X e := by
 have i1 : ¬ ((4096 : Int) < (n : Int)) := by omega
 have LX : Hid (n = X.length) := hC.out.len
 have NN : Hid (n < 9223372036854775808) := by show _ < _; omega
 go_enter Tryd.func22, Tryd.ntmps22
 go_upto_region 4 with (go_at_call 25; refine (refnum_n (N := n) NN.out).mono ?_; rintro e w2 ⟨a2, n2, c2, rfl, h2⟩)
 have S2 : Hid (Wq w w2 a2 n2 c2 (enc n ++ ([] : List Nm).flatMap putL) 9) := by
  have e : enc n ++ ([] : List Nm).flatMap putL = enc n := by simp
  rw [e]
  exact ⟨h2.out.1, h2.out.2, by rw [h2.out.1.len]; exact enc_nine NN.out⟩
 clear h2
 go_wp2
 go_loopw [4, 15] (fun t4 ti wr => ∃ (i : Nat) (ai : Option Addr) (ni ci : Nat) (ys : List Nm), i <= n /\ t4 = .slice ai ni ci /\ ti = .int .i64 (i : Int) /\ Hid (Wq w wr ai ni ci (enc n ++ ys.flatMap putL) (9 + i * 2009)) /\ Hid ((X.take i).map Cx.cm = ys.map Nm.cm /\ ∀ y ∈ ys, Nb y /\ frm y.cm = true)) (fun _ ti _ => n - (intOf ti).toNat)
 case atStart => exact ⟨0, a2, n2, c2, [], by omega, rfl, rfl, S2.out, (by show _ /\ _; exact ⟨by simp, fun y hy => by cases hy⟩)⟩
 case round =>
  obtain ⟨i, ai, ni, ci, ys, hi, rfl, rfl, S, HY⟩ := hrel
  clear S2
  by_cases hlt : i < n
  . have i2 : (i : Int) < (n : Int) := by omega
    have CR : Hid (Cms wr 0 a n X) := hC.out.below S.out.bel
    have iX : i < X.length := by have := LX.out; omega
    obtain ⟨b, o, rfl, R1⟩ := CR.out.at_ iX
    obtain ⟨x, Hx⟩ := nm (X[i])
    have MX : x ∈ X := by rw [<- Hx.out]; exact List.getElem_mem iX
    rw [Hx.out] at R1
    obtain ⟨A, HA⟩ : ∃ A, Hid (A = (encX x).toArray) := ⟨_, rfl⟩
    have a18 : A.size = 18 := encX_sz HA.out
    have RA : wr.rangeAt b (o + i * 18) A.toList := by rw [HA.out]; exact R1
    have PX : Hid (Irow wr 0 x.pa x.pn x.cm.ps) := (CR.out.ps x MX).1
    have ST : Hid (x.cm.bu.size <= 281474976710656 /\ x.cm.ke.size <= 281474976710656 /\ x.cm.et.size <= 281474976710656) := CR.out.st x MX
    have TK : Hid (X.take (i + 1) = X.take i ++ [x]) := by
     show _ = _
     rw [List.take_succ_eq_append_getElem iX, Hx.out]
    have HMX : Hid (x ∈ X) := MX
    clear R1 MX
    obtain ⟨g6, Hg6⟩ := nm (wr.heap.size)
    obtain ⟨w6, Hw6⟩ := nm ((wr.alloc (.cells #[.int .i64 0,.int .i64 0,.int .i64 0,.int .i64 0,.string ⟨#[]⟩,.string ⟨#[]⟩,.int .i64 0,.int .i64 0,.int .i64 0,.int .i64 0,.int .i64 0,.int .i64 0,.int .i64 0,.string ⟨#[]⟩,.int .i64 0,.slice none 0 0,.int .i64 0,.int .i64 0] 60)).setRow wr.heap.size A)
    have b6 : Hid (Below wr.heap.size wr w6) := by rw [<- Hw6.out]; exact below_setRow (alloc1 wr _) (Nat.le_refl _) A
    have k6 : Hid (w6.heap[g6]? = some (.cells A 60 (0, 0))) := by rw [<- Hw6.out, <- Hg6.out]; exact setRow_heap _ _ _ _ _ _ (heap_alloc_new wr _)
    have S6 : Hid (Wq w w6 ai ni ci (enc n ++ ys.flatMap putL) (9 + i * 2009)) := S.out.below b6.out
    have P6 : Hid (Irow w6 0 x.pa x.pn x.cm.ps) := PX.out.below b6.out
    go_upto_region 7 with first
     | (refine wpList_load_mid (by rfl) 60 (.tmp 17) (by rfl) b (o + i * 18) (by rfl) _ _ RA Tryd.underlying60 rfl (by rw [Array.length_toList]; exact info28 a18) ?_)
     | (refine wpList_store_row (by rfl) 60 (.tmp 6) (.tmp 18) (by rfl) wr.heap.size A (by rfl) (by rfl) 60 _ (heap_alloc_new wr _) (info28 a18) a18.symm (encX_all HA.out) ?_)
    rw [Hw6.out, Hg6.out]
    try simp only [Act.put]
    clear Hw6 Hg6 RA PX CR
    obtain ⟨fr0, Hfr⟩ := nm (frm x.cm)
    cases fr0
    . go_upto_region 8 with first
       | (refine wpList_load_row (by rfl) 60 (.tmp 6) (by rfl) g6 (by rfl) 60 A (0, 0) _ k6.out Tryd.underlying60 rfl (info28 a18) ?_)
       | (go_at_call 45; refine (inf_x HA P6 ST).mono ?_; rintro e w7 ⟨rfl, h7⟩; rw [Hfr.out])
      go_wp2
      go_ret2
      exact .inl ⟨⟨x, HMX.out, Hfr.out⟩, rfl, S6.out.bel.trans (h7.out.mono S6.out.bel.size)⟩
    . obtain ⟨y, hy, hyb⟩ := frm_nat Hfr.out
      have HYc : Hid (x.cm = y.cm) := hy
      have HYb : Hid (Nb y) := hyb
      have HF : Hid (frm y.cm = true) := by rw [<- HYc.out]; exact Hfr.out
      clear hy hyb
      go_upto_region 9 with first
       | (refine wpList_load_row (by rfl) 60 (.tmp 6) (by rfl) g6 (by rfl) 60 A (0, 0) _ k6.out Tryd.underlying60 rfl (info28 a18) ?_)
       | (go_at_call 45; refine (inf_x HA P6 ST).mono ?_; rintro e w7 ⟨rfl, h7⟩; rw [Hfr.out])
      have S7 : Hid (Wq w w7 ai ni ci (enc n ++ ys.flatMap putL) (9 + i * 2009)) := S6.out.below h7.out
      have P7 : Hid (Irow w7 0 x.pa x.pn x.cm.ps) := P6.out.below h7.out
      have k7 := sh h7 k6
      clear h7 S6 P6 k6
      go_wp2_with first
       | (refine wpList_load_row (by rfl) 60 (.tmp 6) (by rfl) g6 (by rfl) 60 A (0, 0) _ k7.out Tryd.underlying60 rfl (info28 a18) ?_)
       | (go_at_call 46; refine (refputx_yes HA P7 HYc HYb).mono ?_; rintro e w8 ⟨ab, nb, cb, rfl, h8⟩
          have SB : Hid (Sln w8 ab nb y.by) := h8.out.1.sln (by have := h8.out.2.2; omega)
          have ZB : Hid (ab = none -> cb = 0) := h8.out.1.cap0
          have NB : Hid (nb = y.by.length) := h8.out.1.len
          have nb2 : nb + 9 <= 140737488352256 := by have := h8.out.2.2; omega
          have S8 : Hid (Wq w w8 ai ni ci (enc n ++ ys.flatMap putL) (9 + i * 2009)) := S7.out.below h8.out.2.1)
       | (go_at_call 26; refine (refbytes_n SB ZB nb2).mono ?_; rintro e w9 ⟨ac, mc, cc, rfl, h9⟩
          have S9 : Hid (Wq w w9 ai ni ci (enc n ++ ys.flatMap putL) (9 + i * 2009)) := S8.out.below h9.out.2
          have ML : Hid (mc <= 2009) := by
           have h1 := h9.out.1.len
           have h2 := putL_len HYb.out
           unfold putL at h2
           rw [NB.out] at h1
           show _ <= _
           omega
          have LI : Hid (ni <= 9 + 4096 * 2009) := by have := S9.out.ln; show _ <= _; omega
          obtain ⟨a10, c10, w10, hrun, own10, gr10, nw10⟩ := app_any (c2 := cc) S9.out.own (h9.out.1.sln (by have := ML.out; omega)) h9.out.1.cap0 (by have := ML.out; have := LI.out; omega) S9.out.bel.size
          have AP : Hid ((Builtin.append_ #[27, 27] 27 #[.slice ai ni ci,.slice ac mc cc]).run Tryd.prog w9 = .ok (.slice a10 (ni + mc) c10) w10) := hrun
          have S10 : Hid (Wq w w10 a10 (ni + mc) c10 (enc n ++ (ys ++ [y]).flatMap putL) (9 + (i + 1) * 2009)) := by
           have e : enc n ++ ys.flatMap putL ++ (enc nb ++ y.by) = enc n ++ (ys ++ [y]).flatMap putL := by
               rw [NB.out]
               simp [putL]
           rw [<- e]
           refine ⟨own10, S9.out.bel.trans (grown_below gr10 S9.out.bel.size (fun d hd => (S9.out.own.ge d hd).1)), ?_⟩
           have h1 := S9.out.ln
           have h2 := ML.out
           omega
          clear hrun own10 gr10 nw10)
       | (at_builtin; refine wpList_app (by rfl) (.tmp 22) (.tmp 25) (by rfl) (by rfl) (by rfl) (by rfl) AP ?_)
      go_roundw
      case rel =>
       refine ⟨i + 1, a10, ni + mc, c10, ys ++ [y], by omega, rfl, by go_num, S10.out, (by
        show _ /\ _
        refine ⟨by rw [TK.out, List.map_append, List.map_append, HY.out.1]; simp [HYc.out], fun z hz => ?_⟩
        rcases List.mem_append.1 hz with h | h
        . exact HY.out.2 z h
        . obtain rfl := List.mem_singleton.1 h
          exact ⟨HYb.out, HF.out⟩)⟩
      case measure => simp [intOf]; omega
  . obtain rfl : i = n := by omega
    have HE2 : Hid (X.map Cx.cm = ys.map Nm.cm) := by
     have h := HY.out.1
     rwa [List.take_of_length_le (by have := LX.out; omega)] at h
    have LY : Hid (ys.length = i) := by
     have h := congrArg List.length HE2.out
     simp at h
     have := LX.out
     show _ = _
     omega
    have WE : Hid (enc i ++ ys.flatMap putL = wrL ys) := by
     show _ = _
     unfold wrL
     rw [LY.out]
    have S' : Hid (Wq w wr ai ni ci (wrL ys) (9 + i * 2009)) := by rw [<- WE.out]; exact S.out
    have NB9 : Hid (ni <= 9 + 4096 * 2009) := by have := S'.out.ln; show _ <= _; omega
    have SB : Hid (Sln wr ai ni (wrL ys)) := S'.out.own.sln (by have := NB9.out; omega)
    have ZB : Hid (ai = none -> ci = 0) := S'.out.own.cap0
    have nb4 : ni + 4 <= 140737488352256 := by have := NB9.out; omega
    clear hlt
    go_wp2_with (go_at_call 27; refine (refseal_n SB ZB nb4).mono ?_; rintro e w7 ⟨a7, N7, c7, rfl, h7⟩)
    go_ret2
    exact .inr ⟨ys, a7, N7, c7, HE2.out, HY.out.2, rfl, h7.out.2.1.le S'.out.bel.size, by have := h7.out.1; have := NB9.out; omega, S'.out.bel.trans (h7.out.2.2.mono S'.out.bel.size)⟩
end Go.Proofs.YtppibcambhmomaaDoor
