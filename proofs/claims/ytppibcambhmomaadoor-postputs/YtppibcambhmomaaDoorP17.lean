import Derived.Test.YtppibcambhmomaaDoorPp
import Derived.Test.YtppibcambhmomaaDoorP12
import Derived.Test.YtppibcambhmomaaDoorP10
import Derived.Laws.IdiomStrings
import Derived.Laws.Concat
namespace Go.Proofs.YtppibcambhmomaaDoor
open Go.ChangeShapes Go.WideShapes Go.ChangeAt Go.RowKit
set_option maxRecDepth 20000
set_option linter.unusedVariables false
set_option linter.unusedSimpArgs false
structure Gr (w W : World) (B : Nat) (a0 a : Option Addr) (n c : Nat) (L : List Nat) : Prop where
 own : Own W B a n c L
 ch : Ch w W (fun q => blkOf a0 = some q)
 nw : New w a0 a
theorem Gr.refl {w : World} {B : Nat} {a : Option Addr} {n c : Nat} {L : List Nat} (h : Own w B a n c L) : Gr w w B a a n c L := ⟨h, Ch.refl _ _, fun q hq => .inl hq⟩
theorem Gr.more {w W W1 W2 : World} {B : Nat} {a0 a a' : Option Addr} {n c n' c' : Nat} {L L' : List Nat} (h : Gr w W B a0 a n c L) (h1 : Below W.heap.size W W1) (h2 : W1.grownBy W2 (blkOf a)) (hn : New W1 a a') (ho : Own W2 B a' n' c' L') : Gr w W2 B a0 a' n' c' L' := by
 have c2 : Ch W1 W2 (fun q => blkOf a = some q) := ⟨h2.os, h2.tape, h2.output, h2.size, fun q h1 h3 => h2.block q h1 (fun e => h3 e.symm)⟩
 have s1 := Nat.le_trans h.ch.size h1.size
 refine ⟨ho, ((h.ch.trans (Ch.below h1)).then c2 (fun q _ e => e) (fun q hq e => ?_)), h.nw.trans hn s1⟩
 rcases h.nw q e with e2 | e2
 . exact e2
 . omega
set_option maxHeartbeats 4000000 in
theorem nums_n {w : World} {B : Nat} {a : Option Addr} {n c : Nat} {L : List Nat} {pa : Option Addr} {pn pc : Nat} {PS : List Nat} (hO : Hid (Own w B a n c L)) (hI : Hid (Irow w 0 pa pn (PS.map fun x : Nat => (x : Int)))) (hP : Hid (∀ x ∈ PS, x < 9223372036854775808)) (hap : Hid (0 < pn -> ∀ q, blkOf pa = some q -> blkOf a ≠ some q)) (hB : Hid (B <= w.heap.size)) (hn : n <= 1000000) (hpn : pn <= 1000) :
  Calls Tryd.prog 62 #[.slice a n c,.slice pa pn pc] w fun e w' => ∃ a' n' c', e = .returned (.slice a' n' c') /\ Hid (Gr w w' B a a' n' c' (L ++ encs PS)) := by
 have nL : Hid (n = L.length) := hO.out.len
 go_enter Tryd.func62, Tryd.ntmps62
 go_wp2
 go_loopw [0, 9] (fun t0 t9 wr => ∃ (i : Nat) (ai : Option Addr) (ni ci : Nat), i <= pn /\ ni <= n + i * 9 /\ t9 = .int .i64 (i : Int) /\ t0 = .slice ai ni ci /\ Hid (Gr w wr B a ai ni ci (L ++ encs (PS.take i)))) (fun _ t9 _ => pn - (intOf t9).toNat)
 case atStart => exact ⟨0, a, n, c, by omega, by omega, rfl, rfl, (show Gr w w B a a n c (L ++ encs (PS.take 0)) by simpa [encs] using Gr.refl hO.out)⟩
 case round =>
  obtain ⟨i, ai, ni, ci, hi, hni, rfl, rfl, HG⟩ := hrel
  have HIr : Hid (Irow wr 0 pa pn (PS.map fun x : Nat => (x : Int))) := by
   refine ⟨hI.out.len, hI.out.sz, ?_⟩
   by_cases h0 : pn = 0
   . exact .inl h0
   refine hI.out.row.imp id ?_
   rintro ⟨b, o, h1, h2, h3, h4⟩
   refine ⟨b, o, h1, h2, Nat.lt_of_lt_of_le h3 HG.out.ch.size, fun j hj => (HG.out.ch.cell (p := ⟨b, o + j, none⟩) h3 (hap.out (by omega) b (by rw [h1]; rfl))).trans (h4 j hj)⟩
  by_cases hlt : i < pn
  . have il : (i : Int) < (pn : Int) := by omega
    obtain ⟨tb, tO, rfl, e1⟩ := HIr.out.at_ hlt
    have iL : i < PS.length := by have := HIr.out.len; simp at this; omega
    obtain ⟨x, Hx⟩ := nm (PS[i])
    have hx : x < 9223372036854775808 := by rw [<- Hx.out]; exact hP.out _ (List.getElem_mem iL)
    have e2 : (PS.map fun x : Nat => (x : Int)).getD i 0 = (x : Int) := by simp [List.getD, iL, Hx.out]
    rw [e2] at e1
    clear e2
    go_wp2_with (first
     | (go_at_call 25; refine (refnum_n hx).mono ?_; rintro e w1 ⟨a1, n1, c1, rfl, H1⟩
        have b1 : n1 <= 9 := by rw [H1.out.1.len]; exact enc_nine hx
        obtain ⟨a2, c2, w2, hrun, own2, gr2, new2⟩ := app_any (c2 := c1) (HG.out.own.below H1.out.2) (H1.out.1.sln (by omega)) H1.out.1.cap0 (by omega) (Nat.le_trans (Nat.le_trans hB.out HG.out.ch.size) H1.out.2.size)
        have AP : Hid ((Builtin.append_ #[27, 27] 27 #[.slice ai ni ci,.slice a1 n1 c1]).run Tryd.prog w1 = .ok (.slice a2 (ni + n1) c2) w2) := hrun
        have F : Hid (Gr w w2 B a a2 (ni + n1) c2 (L ++ encs (PS.take i) ++ enc x)) := HG.out.more H1.out.2 gr2 new2 own2
        clear hrun own2 gr2 new2)
     | (at_builtin; refine wpList_app (by rfl) (.tmp 13) (.tmp 15) (by rfl) (by rfl) (by rfl) (by rfl) AP ?_))
    go_roundw
    case rel =>
     have h := F.out
     rw [List.append_assoc, <- Hx.out, <- encs_snoc, <- List.take_succ_eq_append_getElem iL] at h
     exact ⟨i + 1, a2, ni + n1, c2, by omega, by omega, by go_num, rfl, h⟩
    case measure => simp [intOf]; omega
  . obtain rfl : i = pn := by omega
    have hl : PS.length = i := by have := HIr.out.len; simp at this; omega
    rw [List.take_of_length_le (by omega)] at HG
    go_wp2
    go_ret
    exact ⟨ai, ni, ci, rfl, HG.out⟩
def cvC (X : World) (s : ByteArray) : Nat := grownCap X s.size 0 5
def cvW (X : World) (s : ByteArray) : World := X.drew.alloc (.cells (bytesRow s (cvC X s)) 5 ((bytesRow s (cvC X s)).size, (bytesRow s (cvC X s)).size + 1))
theorem run_cv (X : World) (s : ByteArray) : (convert 9 27 (.string s)).run Tryd.prog X = .ok (.slice (some ⟨X.heap.size, 0, none⟩) s.size (cvC X s)) (cvW X s) := run_bytes_of_string X 9 27 5 s Tryd.underlying9 Tryd.underlying27 Tryd.underlying5
theorem cvW_below (X : World) (s : ByteArray) : Below X.heap.size X (cvW X s) := by
 have h1 : Below X.heap.size X X.drew := below_drewN (Below.refl _ _) 1
 exact h1.alloc (Nat.le_refl _) _
theorem cvW_sln (X : World) (s : ByteArray) (h : s.size <= 140737488352256) : Sln (cvW X s) (some ⟨X.heap.size, 0, none⟩) s.size (bl s) := by
 refine ⟨(bl_len s).symm, bl_lt s, by rw [bl_len]; exact h, .inr ⟨X.heap.size, 0, rfl, by simp [cvW], fun i hi => ?_⟩⟩
 have hi2 : i < s.data.size := by rw [bl_len] at hi; exact hi
 have hb : (cvW X s).heap[X.heap.size]? = some (.cells (bytesRow s (cvC X s)) 5 ((bytesRow s (cvC X s)).size, (bytesRow s (cvC X s)).size + 1)) := heap_alloc_new X.drew _
 have hr := bytesRow_at s (cvC X s) i hi2
 rw [Nat.zero_add]
 unfold World.cell?
 rw [hb]
 have e : (bl s).getD i 0 = (s.data[i]).toNat := by
  have h3 : i < s.data.toList.length := by simpa using hi2
  simp [bl, List.getD]
  rw [Array.getElem?_eq_getElem hi2]
  rfl
 rw [e]
 simp [hr]
structure Rp (w W : World) (g1 : Nat) (A : Array Value) (a : Option Addr) (n c : Nat) (L : List Nat) (m : Nat) : Prop where
 own : Own W (g1 + 1) a n c L
 h1 : W.heap[g1]? = some (.cells A 60 (0, 0))
 bel : Below w.heap.size w W
 ln : n <= m
 lw : w.heap.size <= g1
section
variable {w W W1 W' : World} {g1 : Nat} {A : Array Value} {a a' : Option Addr} {n c n' c' : Nat} {L L' : List Nat} {m m' : Nat}
theorem Rp.lt (h : Rp w W g1 A a n c L m) : g1 + 1 <= W.heap.size := (gl h.h1)
theorem Rp.below (h : Rp w W g1 A a n c L m) (hb : Below W.heap.size W W') : Rp w W' g1 A a n c L m := ⟨h.own.below hb, (hb.block _ (gl h.h1)).trans h.h1, h.bel.trans (hb.mono h.bel.size), h.ln, h.lw⟩
theorem Rp.cell (h : Rp w W g1 A a n c L m) (j : Nat) (v : Value) (hv : A[j]? = some v) : W.cell? ⟨g1, j, none⟩ = some v := by simp [World.cell?, h.h1, hv]
theorem Rp.ch (h : Rp w W g1 A a n c L m) (hc : Ch W W' (fun q => blkOf a = some q)) (ho : Own W' (g1 + 1) a' n' c' L') (hm : n' <= m') : Rp w W' g1 A a' n' c' L' m' :=
 ⟨ho, (hc.block g1 (gl h.h1) (fun e => by have := (h.own.ge g1 e).1; omega)).trans h.h1, h.bel.trans (hc.toBelow h.bel.size (fun q hq e => by have := (h.own.ge q e).1; have := h.lw; omega)), hm, h.lw⟩
theorem Rp.gr (h : Rp w W g1 A a n c L m) (hG : Gr W W' (g1 + 1) a a' n' c' L') (hm : n' <= m') : Rp w W' g1 A a' n' c' L' m' := h.ch hG.ch hG.own hm
theorem encs_le {l : List Nat} (h : ∀ x ∈ l, x < 9223372036854775808) : (encs l).length <= l.length * 9 := by
 induction l with
 | nil => exact Nat.le_refl _
 | cons x l ih =>
   have h1 := enc_nine (h x (List.mem_cons_self ..))
   have h2 := ih (fun y hy => h y (List.mem_cons_of_mem _ hy))
   show (enc x ++ encs l).length <= _
   rw [List.length_append, List.length_cons]
   omega
theorem Rp.nums {PS : List Nat} {pa : Option Addr} {pn pc : Nat} (h : Hid (Rp w W g1 A a n c L m)) (hI : Hid (Irow W 0 pa pn (PS.map fun x : Nat => (x : Int)))) (hP : Hid (∀ x ∈ PS, x < 9223372036854775808)) (hap : Hid (0 < pn -> ∀ q, blkOf pa = some q -> q < g1 ∨ blkOf a ≠ some q)) (hm : m <= 900000) (hpn : pn <= 1000) :
  Calls Tryd.prog 62 #[.slice a n c,.slice pa pn pc] W fun e W' => ∃ a' n' c', e = .returned (.slice a' n' c') /\ Hid (Rp w W' g1 A a' n' c' (L ++ encs PS) (m + pn * 9)) := by
 have k := h.out
 refine (nums_n k.own hI hP (fun h0 q hq e => ?_) k.lt (by have := k.ln; omega) hpn).mono ?_
 . rcases hap.out h0 q hq with h1 | h1
   . have := (k.own.ge q e).1; omega
   . exact h1 e
 . rintro e W' ⟨a', n', c', h1, h2⟩
   refine ⟨a', n', c', h1, k.gr h2.out ?_⟩
   have hl : PS.length = pn := by have := hI.out.len; simp at this; omega
   have h3 := encs_le hP.out
   have h4 := h2.out.own.len
   rw [List.length_append, <- k.own.len] at h4
   have := k.ln
   omega
end
theorem irow_new {W W1 : World} {l : List Nat} {b : Nat} {cs : Array Value} (hW : W1.heap[b]? = some (.cells cs 3 (0, 0))) (hc : cs.toList = l.map (fun x : Nat => Value.int .i64 (x : Int))) (hl : l.length <= 1000) : Irow W1 0 (some ⟨b, 0, none⟩) l.length (l.map fun x : Nat => (x : Int)) := by
 refine ⟨by simp, by omega, .inr ⟨b, 0, rfl, Nat.zero_le _, (gl hW), fun i hi => ?_⟩⟩
 have h1 : cs[i]? = some (.int .i64 ((l[i] : Nat) : Int)) := by
  rw [<- Array.getElem?_toList, hc]
  simp [hi]
 simp [World.cell?, hW, h1, List.getD, hi]
end Go.Proofs.YtppibcambhmomaaDoor
