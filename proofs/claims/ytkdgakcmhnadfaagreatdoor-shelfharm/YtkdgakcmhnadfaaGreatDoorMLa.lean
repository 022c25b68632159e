import Derived.Test.YtkdgakcmhnadfaaGreatDoorMDc
import Derived.StillTailTactics
import Derived.Maps.RangeWalk
import Derived.Test.YtkdgakcmhnadfaaGreatDoorMDi
/- La -/
/- Flip of package disk, on plain lists: how many bits there are, and which of them is turned. -/
namespace Go.Proofs.YtkdgakcmhnadfaaGreatDoor
open Go.ChangeShapes Go.WideShapes Go.ChangeAt Go.RowKit Go.Maps Go.Sort Go.Shelf
set_option maxRecDepth 20000
set_option linter.unusedVariables false
set_option linter.unusedSimpArgs false
/- how many bits the file of a name has, the files of names have -/
def bt (v : ByteArray → Option Fl) (s : ByteArray) : Nat := 8 * ((v s).getD f0).b.size
def bts (v : ByteArray → Option Fl) (ks : List ByteArray) : Nat := (ks.map (bt v)).sum
theorem bts_nil (v : ByteArray → Option Fl) : bts v [] = 0 := rfl
theorem bts_cons (v : ByteArray → Option Fl) (s : ByteArray) (ks : List ByteArray) : bts v (s :: ks) = bt v s + bts v ks := by simp [bts]
theorem bts_snoc (v : ByteArray → Option Fl) (ks : List ByteArray) (s : ByteArray) : bts v (ks ++ [s]) = bts v ks + bt v s := by simp [bts]
theorem bts_perm (v : ByteArray → Option Fl) {ks ls : List ByteArray} (h : ks.Perm ls) : bts v ks = bts v ls := by
  unfold bts
  exact (h.map _).sum_nat
theorem bts_le (v : ByteArray → Option Fl) (B : Nat) (h : ∀ s, bt v s ≤ B) : ∀ ks : List ByteArray, bts v ks ≤ ks.length * B
  | [] => by simp [bts]
  | s :: ks => by
    rw [bts_cons, List.length_cons, Nat.succ_mul]
    have := h s
    have := bts_le v B h ks
    omega
/- a list of bytes, a file with a bit turned -/
def tnL (l : List Nat) (p : Nat) : List Nat := l.set (p / 8) (l.getD (p / 8) 0 ^^^ 2 ^ (p % 8))
def tn (f : Fl) (p : Nat) : Fl := ⟨spell (tnL (bytesOf f.b) p), spell (tnL (bytesOf f.b) p), true⟩
theorem pow8 (p : Nat) : 2 ^ (p % 8) < 2 ^ 8 := Nat.pow_lt_pow_right (by omega) (Nat.mod_lt _ (by omega))
theorem tnL_lt {l : List Nat} (h : ∀ x ∈ l, x < 256) (p : Nat) : ∀ x ∈ tnL l p, x < 256 := by
  intro x hx
  unfold tnL at hx
  rcases List.mem_or_eq_of_mem_set hx with h1 | h1
  · exact h x h1
  · rw [h1]
    exact Nat.xor_lt_two_pow (n := 8) (getD_lt h _) (pow8 p)
theorem tnL_length (l : List Nat) (p : Nat) : (tnL l p).length = l.length := by simp [tnL]
theorem tnL_ne {l : List Nat} {p : Nat} (h : p < 8 * l.length) : tnL l p ≠ l := by
  intro e
  have hi : p / 8 < l.length := by omega
  have h1 : (tnL l p).getD (p / 8) 0 = l.getD (p / 8) 0 := by rw [e]
  unfold tnL at h1
  rw [List.getD_eq_getElem?_getD, List.getElem?_set_self hi] at h1
  simp only [Option.getD_some] at h1
  have h2 : 2 ^ (p % 8) = 0 := by
    have h3 := congrArg (fun z => l.getD (p / 8) 0 ^^^ z) h1
    simp only [← Nat.xor_assoc, Nat.xor_self, Nat.zero_xor] at h3
    exact h3
  have h4 : 0 < 2 ^ (p % 8) := Nat.pow_pos (by omega)
  omega
/- the whole: the names in their order, the place of the bit -/
def flp (v : ByteArray → Option Fl) : List ByteArray → Nat → (ByteArray → Option Fl)
  | [], _ => v
  | s :: ks, p => if p < bt v s then upd v s (some (tn ((v s).getD f0) p)) else flp v ks (p - bt v s)
theorem flp_here (v : ByteArray → Option Fl) (s : ByteArray) (ks : List ByteArray) (p : Nat) (h : p < bt v s) : flp v (s :: ks) p = upd v s (some (tn ((v s).getD f0) p)) := by
  show (if p < bt v s then _ else _) = _
  rw [if_pos h]
theorem flp_next (v : ByteArray → Option Fl) (s : ByteArray) (ks : List ByteArray) (p : Nat) (h : ¬ p < bt v s) : flp v (s :: ks) p = flp v ks (p - bt v s) := by
  show (if p < bt v s then _ else _) = _
  rw [if_neg h]
/- the place of the bit -/
theorem place_pos {n T : Int} (hT : 0 < T) (h : ¬ n.tmod T < 0) : n.tmod T = n % T := by
  rw [Int.tmod_eq_emod] at h ⊢
  have h1 := Int.emod_lt_of_pos n hT
  split at h <;> rename_i h2
  · rw [if_pos h2]; omega
  · omega
theorem place_neg {n T : Int} (hT : 0 < T) (h : n.tmod T < 0) : n.tmod T + T = n % T := by
  rw [Int.tmod_eq_emod] at h ⊢
  have h1 := Int.emod_nonneg n (Int.ne_of_gt hT)
  split at h <;> rename_i h2
  · omega
  · rw [if_neg h2]; omega
end Go.Proofs.YtkdgakcmhnadfaaGreatDoor

/- Lb -/
/- bits and turned of package disk. -/
namespace Go.Proofs.YtkdgakcmhnadfaaGreatDoor
open Go.ChangeShapes Go.WideShapes Go.ChangeAt Go.RowKit
set_option maxRecDepth 20000
set_option linter.unusedVariables false
set_option linter.unusedSimpArgs false
theorem Sln.set0 {w : World} {g n i z : Nat} {l : List Nat} (h : Sln w (some ⟨g, 0, none⟩) n l) (hi : i < l.length) (hz : z < 256) : Sln (w.setCell ⟨g, i, none⟩ (.int .u8 (z : Nat))) (some ⟨g, 0, none⟩) n (l.set i z) := by
  obtain ⟨b, off, e, hl, r⟩ := h.sli.2.2.resolve_left (by rintro rfl; simp at hi)
  simp only [Option.some.injEq, Addr.mk.injEq, and_true] at e
  obtain ⟨rfl, rfl⟩ := e
  refine ⟨by rw [List.length_set]; exact h.len, ?_, by rw [List.length_set]; exact h.sli.2.1, .inr ⟨g, 0, rfl, by simpa [World.setCell] using hl, fun j hj => ?_⟩⟩
  · intro x hx
    rcases List.mem_or_eq_of_mem_set hx with h1 | h1
    · exact h.lt x h1
    · omega
  · rw [List.length_set] at hj
    have hc := r j hj
    rw [Nat.zero_add] at hc ⊢
    by_cases e : i = j
    · subst e
      rw [World.cell?_setCell_same (h := hc)]
      simp [List.getD, hi]
    · rw [World.cell?_setCell_other (h := by simp [e]), hc]
      simp [List.getD, e]
theorem cvW_frozen (X : World) (s : ByteArray) {i : Nat} (h : i < s.size) : (cvW X s).frozen? ⟨X.heap.size, i, none⟩ = false := by
  have hb : (cvW X s).heap[X.heap.size]? = some (.cells (bytesRow s (cvC X s)) 5 ((bytesRow s (cvC X s)).size, (bytesRow s (cvC X s)).size + 1)) := heap_alloc_new X.drew _
  have hr : s.size ≤ (bytesRow s (cvC X s)).size := by
    have h3 : s.size = s.data.size := rfl
    unfold bytesRow
    rw [Array.size_append, Array.size_map]
    omega
  simp only [World.frozen?, hb]
  simp
  omega
theorem bits_n (f : Fl) (hb : Hid (f.b.size ≤ 140737488352256)) (w : World) : Calls Tryz.prog 66 #[fv f] w fun e w' => e = .returned (.int .i64 ((8 * f.b.size : Nat) : Int)) ∧ Hid (Below w.heap.size w w') := by
  obtain ⟨x, y, c⟩ := f
  have hb1 : x.size ≤ 140737488352256 := hb.out
  go_enter Tryz.func66, Tryz.ntmps66
  go_wp2
  go_ret
  exact ⟨by first | rfl | simp, alloc1 w _⟩
theorem wrap_small {i : Nat} (h : i < 4611686018427387904) : IntKind.i64.wrap (i : Int) = (i : Int) := by
  have h1 : ((i : Nat) : Int) < 4611686018427387904 := by omega
  simp [IntKind.wrap, IntKind.bits, IntKind.signed]
  omega
set_option maxHeartbeats 2000000 in
theorem turned_n (f : Fl) (p : Nat) (hp : Hid (p < 8 * f.b.size)) (hb : Hid (f.b.size ≤ 140737488352256)) (w : World) :
    Calls Tryz.prog 67 #[fv f, .int .i64 (p : Int)] w fun e w' => e = .returned (fv (tn f p)) ∧ Hid (Below w.heap.size w w') := by
  obtain ⟨x, y, c⟩ := f
  obtain ⟨W1, HW1⟩ : ∃ W1, Hid ((w.alloc (.cells #[.string x, .string y, .bool c] 100)).alloc (.cells #[.string ⟨#[]⟩, .string ⟨#[]⟩, .bool false] 100) = W1) := ⟨_, rfl⟩
  have CV := run_cv W1 x
  have c0 : W1.cell? ⟨w.heap.size, 0, none⟩ = some (.string x) := by rw [← HW1.out]; simp
  obtain ⟨g, Hg⟩ : ∃ g, Hid (W1.heap.size = g) := ⟨_, rfl⟩
  rw [Hg.out] at CV
  obtain ⟨i, Hi⟩ : ∃ i, Hid (p / 8 = i) := ⟨_, rfl⟩
  obtain ⟨j, Hj⟩ : ∃ j, Hid (p % 8 = j) := ⟨_, rfl⟩
  have e1 : (p : Int).tdiv 8 = (i : Int) := by rw [← Hi.out]; rfl
  have e2 : (p : Int).tmod 8 = (j : Int) := by rw [← Hj.out]; rfl
  obtain ⟨W2, HW2⟩ : ∃ W2, Hid (cvW W1 x = W2) := ⟨_, rfl⟩
  rw [HW2.out] at CV
  have S2 : Hid (Sln W2 (some ⟨g, 0, none⟩) x.size (bytesOf x)) := by rw [← HW2.out, ← Hg.out]; exact cvW_sln W1 x hb.out
  obtain ⟨z, Hz⟩ : ∃ z, Hid ((bytesOf x).getD i 0 = z) := ⟨_, rfl⟩
  have ix : i < x.size := by have h := hp.out; have h1 := Hi.out; simp only at h; omega
  have hz : z < 256 := by rw [← Hz.out]; exact getD_lt (bytesOf_lt x) i
  have hj : j < 8 := by have h1 := Hj.out; omega
  have c2 : W2.cell? ⟨g, i, none⟩ = some (.int .u8 (z : Nat)) := by
    obtain ⟨b, off, e, _, r⟩ := S2.out.sli.2.2.resolve_left (by intro e; have := bytesOf_length x; rw [e] at this; simp at this; omega)
    simp only [Option.some.injEq, Addr.mk.injEq, and_true] at e
    obtain ⟨rfl, rfl⟩ := e
    have h := r i (by rw [bytesOf_length]; exact ix)
    rw [Nat.zero_add, Hz.out] at h
    exact h
  have f2 : W2.frozen? ⟨g, i, none⟩ = false := by rw [← HW2.out, ← Hg.out]; exact cvW_frozen W1 x ix
  obtain ⟨n, Hn⟩ : ∃ n, Hid (x.size = n) := ⟨_, rfl⟩
  rw [Hn.out] at CV
  have wi : IntKind.i64.wrap (i : Int) = (i : Int) := wrap_small (by have := hb.out; simp only at this; omega)
  have wj : IntKind.i64.wrap (j : Int) = (j : Int) := wrap_small (by omega)
  have i1 : (0 : Int) ≤ (i : Int) := by omega
  have i2 : (i : Int) < (n : Int) := by have := Hn.out; omega
  go_enter Tryz.func67, Tryz.ntmps67
  go_upto_region 1 with (fail)
  rw [HW1.out]
  go_upto_region 2 with (fail)
  go_still_tail 10, (by kernel_rfl)
  repeat still_step
  go_upto_region 3 with (fail)
  have ev : bits .xor .u8 (z : Int) ((2 : Int) ^ j % 256) = ((z ^^^ 2 ^ j : Nat) : Int) := by
    have h1 : (2 : Nat) ^ j < 256 := by
      have h2 := pow8 p
      rw [Hj.out] at h2
      exact h2
    have h3 : ((2 : Int) ^ j % 256) = ((2 ^ j : Nat) : Int) := by
      have h4 : ((2 : Int) ^ j) = ((2 ^ j : Nat) : Int) := by simp
      rw [h4]
      exact Int.emod_eq_of_lt (Int.natCast_nonneg _) (by exact_mod_cast h1)
    rw [h3]
    exact u8_xor_nat z (2 ^ j) hz h1
  rw [ev]
  obtain ⟨W3, HW3⟩ : ∃ W3, Hid ((W2.setCell ⟨g, i, none⟩ (.int .u8 ((z ^^^ 2 ^ j : Nat) : Int))).drew = W3) := ⟨_, rfl⟩
  have zl : z ^^^ 2 ^ j < 256 := by
    have h2 := pow8 p
    rw [Hj.out] at h2
    exact Nat.xor_lt_two_pow (n := 8) hz h2
  obtain ⟨L, HL⟩ : ∃ L, Hid (tnL (bytesOf x) p = L) := ⟨_, rfl⟩
  have S3 : Hid (Sln W3 (some ⟨g, 0, none⟩) n L) := by
    rw [← HW3.out, ← HL.out]
    have h1 := S2.out.set0 (i := i) (z := z ^^^ 2 ^ j) (by rw [bytesOf_length]; exact ix) zl
    unfold tnL
    rw [Hi.out, Hj.out, Hz.out, ← Hn.out]
    exact h1.drew
  have CW := conv_n (k := cvC W1 x) S3
  have bW1 : Below w.heap.size w W1 := by rw [← HW1.out]; exact alloc2 w _ _
  have bW2 : Below W1.heap.size W1 W2 := by rw [← HW2.out]; exact cvW_below W1 x
  have sz1 : W1.heap.size = w.heap.size + 2 := by rw [← HW1.out]; simp
  have bW3 : Below W1.heap.size W1 W3 := by
    rw [← HW3.out]
    exact (Oth.below bW2 ((Oth.refl g W2).setCell i _) (by rw [Hg.out]; exact Nat.le_refl _)).drew
  have k0 : W3.heap[w.heap.size]? = some (.cells #[.string x, .string y, .bool c] 100 (0, 0)) := by
    rw [bW3.block _ (by omega), ← HW1.out, Below.heap_alloc _ _ _ (by simp)]
    exact heap_alloc_new w _
  have k1 : W3.heap[w.heap.size + 1]? = some (.cells #[.string ⟨#[]⟩, .string ⟨#[]⟩, .bool false] 100 (0, 0)) := by
    rw [bW3.block _ (by omega), ← HW1.out]
    have h := heap_alloc_new (w.alloc (.cells #[.string x, .string y, .bool c] 100)) (.cells #[.string ⟨#[]⟩, .string ⟨#[]⟩, .bool false] 100)
    rw [World.size_alloc] at h
    exact h
  have KK : Hid (W3.heap[w.heap.size + 1]? = some (.cells #[.string ⟨#[]⟩, .string ⟨#[]⟩, .bool false] 100 (0, 0))) := k1
  have FB : Hid (Below w.heap.size w W3 ∧ w.heap.size + 2 ≤ W3.heap.size) := ⟨bW1.trans (bW3.mono bW1.size), by have := bW3.size; omega⟩
  have q0 : W3.cell? ⟨w.heap.size, 0, none⟩ = some (.string x) := by simp [World.cell?, k0]
  have q1 : W3.cell? ⟨w.heap.size, 1, none⟩ = some (.string y) := by simp [World.cell?, k0]
  have q2 : W3.cell? ⟨w.heap.size, 2, none⟩ = some (.bool c) := by simp [World.cell?, k0]
  have fz : W3.frozen? ⟨w.heap.size, 0, none⟩ = false := by simp [World.frozen?, k0]
  rw [HW3.out]
  clear k0 k1 bW1 bW2 bW3 c2 f2 c0 CV ev zl i1 i2 wi wj e1 e2 sz1
  go_wp2_with (go_at_call 80; refine (synced_n ⟨spell L, y, c⟩ _).mono ?_; rintro e w5 ⟨rfl, H5⟩
               have m1 : w5.heap[w.heap.size + 1]? = some (.cells #[.string ⟨#[]⟩, .string ⟨#[]⟩, .bool false] 100 (0, 0)) := by
                 have h := H5.out.block (w.heap.size + 1) (by have := FB.out.2; simp [World.setCell]; omega)
                 rw [h, Below.heap_setCell _ _ _ _ (by simp)]
                 exact KK.out
               have p0 : w5.cell? ⟨w.heap.size + 1, 0, none⟩ = some (.string ⟨#[]⟩) := by simp [World.cell?, m1]
               have p1 : w5.cell? ⟨w.heap.size + 1, 1, none⟩ = some (.string ⟨#[]⟩) := by simp [World.cell?, m1]
               have p2 : w5.cell? ⟨w.heap.size + 1, 2, none⟩ = some (.bool false) := by simp [World.cell?, m1]
               have f0 : w5.frozen? ⟨w.heap.size + 1, 0, none⟩ = false := by simp [World.frozen?, m1]
               have f1 : w5.frozen? ⟨w.heap.size + 1, 1, none⟩ = false := by simp [World.frozen?, m1]
               have f2 : w5.frozen? ⟨w.heap.size + 1, 2, none⟩ = false := by simp [World.frozen?, m1]
               clear m1)
  have e9 : tn ⟨x, y, c⟩ p = ⟨spell L, spell L, true⟩ := by unfold tn; rw [HL.out]
  rw [e9]
  refine bodyPost_ret (v := .agg #[.string (spell L), .string (spell L), .bool true]) (by simp [results, Tryz.results67, go_sem, p0, p1, p2]) rfl ⟨rfl, ?_⟩
  have b4 : Below w.heap.size w (W3.setCell ⟨w.heap.size, 0, none⟩ (.string (spell L))) := Oth.below FB.out.1 ((Oth.refl w.heap.size W3).setCell 0 _) (Nat.le_refl _)
  have b5 : Below w.heap.size w w5 := b4.trans (H5.out.mono b4.size)
  exact Oth.below b5 ((((Oth.refl (w.heap.size + 1) w5).setCell 0 _).setCell 1 _).setCell 2 _) (by omega)
end Go.Proofs.YtkdgakcmhnadfaaGreatDoor

/- Lc -/
/- Flip of package disk: one bit of one file is turned, whatever order the map's files come in. -/
namespace Go.Proofs.YtkdgakcmhnadfaaGreatDoor
open Go.ChangeShapes Go.WideShapes Go.ChangeAt Go.RowKit Go.Maps Go.Sort Go.Shelf
set_option maxRecDepth 20000
set_option linter.unusedVariables false
set_option linter.unusedSimpArgs false
abbrev ba (x : List UInt8) : ByteArray := ⟨x.toArray⟩
theorem inv_key : ∀ key kl', keyOf Tryz.prog 9 key = some kl' → ∃ x : List UInt8, key = encStr x := fun key kl' h => by
  obtain ⟨x, h1, _⟩ := Maps.keyOf_str Tryz.underlying9 h
  exact ⟨x, h1⟩
theorem inv_val : ∀ v y, Rf v = some y → ∃ f : Fl, v = fv f := fun v y h => ⟨_, Rf_inv (d := y.1) (ps := y.2) h⟩
theorem vw_at {D : DataW Unit} {x : List UInt8} {f : Fl} {k : Lit} {y : DataW Unit × List MemPlace} (hk : keyOf Tryz.prog 9 (encStr x) = some k) (hy : Rf (fv f) = some y) (hat : ∀ zd, D.atKey k zd = y.1) : k = .string x ∧ vw D (ba x) = some f := by
  obtain ⟨x', h1, h2, _⟩ := Maps.keyOf_str Tryz.underlying9 hk
  obtain rfl := encStr_inj h1
  refine ⟨h2, ?_⟩
  have e1 : kl (ba x) = k := by rw [h2]; simp [kl]
  rw [Rf_mk] at hy
  obtain rfl := Option.some.inj hy
  unfold vw
  rw [e1, if_pos (has_true_of_atKey hat), hat, un_fd]
theorem grown_below {w w' : World} (h : Below w.heap.size w w') : w.grownBy w' none := ⟨h.os, h.tape, h.output, h.size, fun i hi _ => h.block i hi⟩
def FlP (w w' : World) (d m : Nat) (D : DataW Unit) (full : Bool) (lost n : Int) (e : Ending) : Prop :=
  (bts (vw D) (rise D) = 0 ∧ e = .returned (.bool false) ∧ Below w.heap.size w w') ∨
  (bts (vw D) (rise D) ≠ 0 ∧ e = .returned (.bool true) ∧ ∃ D', Drv w' d m D' full lost ∧ ChD w w' d m ∧ Maps.size D' = Maps.size D ∧ ∀ t, vw D' t = flp (vw D) (rise D) (n % (bts (vw D) (rise D) : Int)).toNat t)
theorem coll_bts {w : World} {m n : Nat} {D : DataW Unit} {left : Lit → Bool} {ss : List (List UInt8)} (h : Collected D left ss) (hown : w.ownsMap Tryz.prog 9 Rf m n D) (hl : ∀ k, left k = false) : bts (vw D) (ss.map ba) = bts (vw D) (rise D) := by
  have h1 := h.perm hown klaw Tryz.underlying9 hl
  apply bts_perm
  unfold rise
  exact (h1.trans (List.mergeSort_perm _ _).symm).map _
theorem rise_of {D : DataW Unit} {ks : List ByteArray} (h : ∃ ss : List (List UInt8), ss.Perm (strKeys D) ∧ ks = (ss.mergeSort (fun x y => decide (x ≤ y))).map fun x => ⟨x.toArray⟩) : ks = rise D := by
  obtain ⟨ss, h1, h2⟩ := h
  rw [h2]
  unfold rise
  have h3 := mergeSort_of_perm h1
  unfold leB at h3
  rw [h3]
set_option maxHeartbeats 4000000 in
theorem flip_n {w : World} {d m : Nat} {D : DataW Unit} {full : Bool} {lost : Int} (hD : Hid (Drv w d m D full lost)) (n : Int) (hn1 : -9223372036854775808 ≤ n) (hn2 : n ≤ 9223372036854775807) (hb : Hid (∀ t, ((vw D t).getD f0).b.size ≤ 140737488352256)) :
    Calls Tryz.prog 23 #[.pointer (some ⟨d, 0, none⟩), .int .i64 n] w fun e w' => Hid (FlP w w' d m D full lost n e) := by
  have c0 := hD.out.c0
  have OWN := hD.out.own
  obtain ⟨Z, HZ⟩ : ∃ Z, Hid (Maps.size D = Z) := ⟨_, rfl⟩
  rw [HZ.out] at OWN
  have Z5 : Hid (Z ≤ 512) := by have h := hD.out.size; have h1 := HZ.out; show _ ≤ _; omega
  obtain ⟨r, Hr⟩ : ∃ r, Hid (w.heap.size = r) := ⟨_, rfl⟩
  have BB : Hid (∀ ks : List ByteArray, ks.length ≤ 512 → bts (vw D) ks ≤ 576460752290840576) := fun ks hk => by
    have h1 := bts_le (vw D) 1125899906818048 (fun s => by have := hb.out s; unfold bt; omega) ks
    omega
  go_enter Tryz.func23, Tryz.ntmps23
  go_wp2_with (at_range; refine wpList_range_own _ rfl _ 94 rfl 9 100 klaw Tryz.underlying94 Rf m Z D rfl OWN ?_; intro w0 hrg0 hg0 hs0)
  go_frame
  rw [Hr.out]
  rw [Hr.out] at hrg0
  have R0 : Hid (w0.ranges Tryz.prog 9 Rf m r Z D (Maps.has D) Z ∧ Below w.heap.size w w0) := ⟨by rw [HZ.out] at hrg0; exact hrg0, (Below.refl _ w).grown hg0 (Nat.le_refl _) (fun k h => by cases h)⟩
  clear hrg0 hg0 hs0 OWN c0
  go_loopw [5] (fun ta wr => ∃ (left : Lit → Bool) (cnt A : Nat) (ss : List (List UInt8)), ta = .int .i64 (A : Int) ∧ Hid (wr.ranges Tryz.prog 9 Rf m r Z D left cnt ∧ Collected D left ss ∧ A = bts (vw D) (ss.map ba) ∧ ss.length + cnt ≤ 512 ∧ Below w.heap.size w wr))
    (fun _ wr => wr.rangeLeft m r)
  case atStart => exact ⟨_, _, 0, [], rfl, R0.out.1, Collected.start D, rfl, by have := Z5.out; simp; omega, R0.out.2⟩
  case round =>
    obtain ⟨left, cnt, A, ss, rfl, HR⟩ := hrel
    clear R0
    have hrg := HR.out.1
    have hA : Hid (A ≤ 576460752290840576) := by
      have h1 := BB.out (ss.map ba) (by have := HR.out.2.2.2.1; simp; omega)
      rw [← HR.out.2.2.1] at h1
      exact h1
    go_wp2_with (at_next; refine wpList_next_ranges _ rfl _ rfl 9 klaw Rf encStr fv inv_key inv_val m r Z D left cnt rfl hrg ?_ ?_)
    · intro _ hl0
      obtain ⟨_, hC, hAe, _, hB0⟩ := HR.out
      have TT : Hid (bts (vw D) (rise D) = A) := by rw [hAe]; exact (coll_bts hC hrg.owns hl0).symm
      have B0 : Hid (Below w.heap.size w wr) := hB0
      clear HR hrg hl0 hC hAe hB0
      by_cases hz : A = 0
      · subst hz
        go_wp2
        go_ret
        exact .inl ⟨TT.out, rfl, B0.out⟩
      · have nz : ¬ ((A : Int) = 0) := by omega
        have nb : ((A : Int) == 0) = false := by simpa using nz
        have hA1 : A ≤ 576460752290840576 := hA.out
        obtain ⟨r1, Hr1⟩ : ∃ r1, Hid (n.tmod (A : Int) = r1) := ⟨_, rfl⟩
        have er1 : n.tmod (A : Int) = r1 := Hr1.out
        have rl : r1 < (A : Int) := by rw [← er1]; exact Int.tmod_lt_of_pos _ (by omega)
        have rg : -(A : Int) < r1 := by rw [← er1]; exact Int.lt_tmod_of_pos _ (by omega)
        obtain ⟨p, Hp⟩ : ∃ p : Nat, Hid ((n % (A : Int)).toNat = p) := ⟨_, rfl⟩
        have Dr : Hid (Drv wr d m D full lost) := hD.out.below B0.out
        have pl : Hid (p < A) := by
          have h1 := Int.emod_lt_of_pos n (b := (A : Int)) (by omega)
          have h2 := Int.emod_nonneg n (b := (A : Int)) nz
          have h3 := Hp.out
          show p < A
          omega
        by_cases hneg : r1 < 0
        · have ep : r1 + (A : Int) = (p : Int) := by
            have h1 := place_neg (n := n) (T := (A : Int)) (by omega) (by rw [er1]; exact hneg)
            have h2 := Int.emod_nonneg n (b := (A : Int)) nz
            have h3 := Hp.out
            rw [er1] at h1
            omega
          go_wp2_with (go_at_call 55; refine (names_n Dr).mono ?_; rintro e w3 ⟨a, k, c, ks, rfl, H3⟩)
          clear er1 rl rg nz nb hneg ep
          have KR : Hid (ks = rise D) := rise_of H3.out.2.1
          obtain ⟨rb, Hrb⟩ : ∃ rb, Hid (wr.heap.size = rb) := ⟨_, rfl⟩
          have K3 : Hid (Kn w3 rb a k ks) := by rw [← Hrb.out]; exact H3.out.1
          have C3 : Hid (ChD w w3 d m) := ChD.of_below (B0.out.trans (H3.out.2.2.mono B0.out.size))
          have D3 : Hid (Drv w3 d m D full lost) := Dr.out.below H3.out.2.2
          have kl5 : Hid (k = ks.length) := K3.out.len
          have k5 : Hid (k ≤ 512) := by
            have h1 := kl5.out
            rw [KR.out] at h1
            have h2 := hD.out.size
            obtain ⟨es, he⟩ := hD.out.isMap
            rw [he, size_eq] at h2
            rw [he] at h1
            simp [rise, strKeys] at h1
            show _ ≤ _
            omega
          have I0 : Hid (flp (vw D) ks p = flp (vw D) (ks.drop 0) p ∧ p < bts (vw D) (ks.drop 0)) := ⟨by simp, by rw [List.drop_zero, KR.out, TT.out]; exact pl.out⟩
          have pA : p ≤ 576460752290840576 := by have := pl.out; omega
          have k6 : k ≤ 512 := k5.out
          clear H3 hA1 hz
          go_loopw [38, 8] (fun ti tq w4 => ∃ i q : Nat, i ≤ k ∧ q ≤ p ∧ ti = .int .i64 (i : Int) ∧ tq = .int .i64 (q : Int) ∧ Hid (flp (vw D) ks p = flp (vw D) (ks.drop i) q ∧ q < bts (vw D) (ks.drop i)) ∧ Hid (Below w3.heap.size w3 w4)) (fun ti _ _ => k - (intOf ti).toNat)
          case atStart => exact ⟨0, p, by omega, by omega, rfl, rfl, I0, Below.refl _ _⟩
          case round =>
            obtain ⟨i, q, hi, hqp, rfl, rfl, HI, HB⟩ := hrel
            clear I0
            have KN : Kn wr rb a k ks := K3.out.keep (fun b h1 h2 => HB.out.block b h2)
            by_cases hlt : i < k
            · obtain ⟨g, rfl, hg1, hg2, hc⟩ := KN.at_ hlt
              have hil : i < ks.length := by have := kl5.out; omega
              obtain ⟨s, Hs⟩ : ∃ s, Hid (ks[i] = s) := ⟨ks[i], (rfl : ks[i] = ks[i])⟩
              rw [Hs.out] at hc
              have dr : Drv wr d m D full lost := D3.out.below HB.out
              have ed : ks.drop i = s :: ks.drop (i + 1) := by rw [List.drop_eq_getElem_cons hil, Hs.out]
              have sz : s.size ≤ 9223372036854775807 := by
                have h1 : s ∈ rise D := by rw [← KR.out, ← Hs.out]; exact List.getElem_mem hil
                unfold rise at h1
                obtain ⟨x, hx, rfl⟩ := List.mem_map.1 h1
                rw [List.mem_mergeSort] at hx
                have h3 := strKeys_le hD.out.own Tryz.underlying9 x hx
                unfold maxLen at h3
                show x.toArray.size ≤ _
                simp
                omega
              have hL := look_f dr.own (s := s) (by unfold maxLen; omega)
              obtain ⟨f, Hf⟩ : ∃ f, Hid ((vw D s).getD f0 = f) := ⟨_, rfl⟩
              rw [Hf.out] at hL
              obtain ⟨x, y, c'⟩ := f
              have c0 := dr.c0
              have hL2 : (Instr.lookup 94 (.map (some m)) (.string s) false).run Tryz.prog wr = .ok (.agg #[.string x, .string y, .bool c']) wr := hL
              have XB : Hid (x.size ≤ 140737488352256) := by have h := hb.out s; rw [Hf.out] at h; exact h
              obtain ⟨B, HBt⟩ : ∃ B, Hid (8 * x.size = B) := ⟨_, rfl⟩
              have eb : Hid (bt (vw D) s = B) := by show _ = _; unfold bt; rw [Hf.out]; exact HBt.out
              have hBm : B ≤ 1125899906818048 := by have := XB.out; have := HBt.out; omega
              have DR : Hid (Drv wr d m D full lost) := dr
              by_cases hq : q < B
              · have hsome : (vw D s).isSome = true := by
                  cases hv : vw D s with
                  | none =>
                    have h1 := Hf.out
                    have h2 := HBt.out
                    rw [hv] at h1
                    have h3 : x = f0.b := by rw [← (show (Fl.mk x y c').b = x from rfl), ← h1]; rfl
                    rw [h3] at h2
                    have h4 : f0.b.size = 0 := rfl
                    omega
                  | some f => rfl
                have hnm : Hid (nm s = true) := dr.good s hsome
                have hz5 : Hid (Maps.size (D.put (kl s) (fd (tn ⟨x, y, c'⟩ q))) = Maps.size D) := by show _ = _; rw [put_size dr.tidy, hsome]; rfl
                have hz6 : Hid (Maps.size (D.put (kl s) (fd (tn ⟨x, y, c'⟩ q))) ≤ 512) := by show _ ≤ _; rw [hz5.out]; exact dr.size
                have FE : Hid (flp (vw D) ks p = upd (vw D) s (some (tn ⟨x, y, c'⟩ q))) := by show _ = _; rw [HI.out.1, ed, flp_here _ _ _ _ (by rw [eb.out]; exact hq), Hf.out]
                have HP : Hid (q < 8 * x.size) := by show _ < _; rw [HBt.out]; exact hq
                have IM : Hid (IsMap D) := dr.isMap
                clear dr hL hsome KN ed
                go_wp2_with (first
                  | (go_at_call 66; refine (bits_n ⟨x, y, c'⟩ XB _).mono ?_; rintro e w5 ⟨rfl, H5⟩; dsimp only; rw [HBt.out]
                     have x0 : w5.cell? ⟨wr.heap.size, 0, none⟩ = some (.string x) := (H5.out.cell (p := ⟨wr.heap.size, 0, none⟩) (by simp)).trans (by simp)
                     have x1 : w5.cell? ⟨wr.heap.size, 1, none⟩ = some (.string y) := (H5.out.cell (p := ⟨wr.heap.size, 1, none⟩) (by simp)).trans (by simp)
                     have x2 : w5.cell? ⟨wr.heap.size, 2, none⟩ = some (.bool c') := (H5.out.cell (p := ⟨wr.heap.size, 2, none⟩) (by simp)).trans (by simp))
                  | (go_at_call 67; refine (turned_n ⟨x, y, c'⟩ q HP XB _).mono ?_; rintro e w6 ⟨rfl, H6⟩
                     have D6 : Hid (Drv w6 d m D full lost) := ((DR.out.below (alloc1 wr _)).below H5.out).below H6.out)
                  | (go_at_call 56; refine (keep_n D6 s hnm _ hz6).mono ?_; rintro e w7 ⟨rfl, H7⟩))
                go_ret
                refine .inr ⟨by rw [TT.out]; have := pl.out; omega, rfl, _, H7.out.1, ?_, hz5.out, fun t => ?_⟩
                · exact C3.out.trans ((ChD.of_below HB.out).trans ((ChD.of_below (alloc1 wr _)).trans ((ChD.of_below H5.out).trans ((ChD.of_below H6.out).trans H7.out.2))))
                · rw [TT.out, Hp.out, ← KR.out, FE.out, vw_put IM.out]
                  rfl
              · have lq : B ≤ q := by omega
                obtain ⟨q2, Hq2⟩ : ∃ q2, Hid (q - B = q2) := ⟨_, rfl⟩
                have iq : (q : Int) - (B : Int) = (q2 : Int) := by have := Hq2.out; omega
                have NX : Hid (flp (vw D) ks p = flp (vw D) (ks.drop (i + 1)) q2 ∧ q2 < bts (vw D) (ks.drop (i + 1))) := by
                  have h1 := HI.out
                  rw [ed, flp_next _ _ _ _ (by rw [eb.out]; exact hq), eb.out, Hq2.out, bts_cons, eb.out] at h1
                  exact ⟨h1.1, by have := Hq2.out; omega⟩
                have q2p : q2 ≤ p := by omega
                have pA2 : q ≤ 576460752290840576 := by omega
                clear dr hL KN ed HI
                have tok : True := trivial
                go_wp2_with (first
                  | (go_at_call 66; have _t := tok; refine (bits_n ⟨x, y, c'⟩ XB _).mono ?_; rintro e w5 ⟨rfl, H5⟩; dsimp only; rw [HBt.out]
                     have x0 : w5.cell? ⟨wr.heap.size, 0, none⟩ = some (.string x) := (H5.out.cell (p := ⟨wr.heap.size, 0, none⟩) (by simp)).trans (by simp)
                     have x1 : w5.cell? ⟨wr.heap.size, 1, none⟩ = some (.string y) := (H5.out.cell (p := ⟨wr.heap.size, 1, none⟩) (by simp)).trans (by simp)
                     have x2 : w5.cell? ⟨wr.heap.size, 2, none⟩ = some (.bool c') := (H5.out.cell (p := ⟨wr.heap.size, 2, none⟩) (by simp)).trans (by simp)
                     clear tok)
                  | (go_at_call 66; refine (bits_n ⟨x, y, c'⟩ XB _).mono ?_; rintro e w6 ⟨rfl, H6⟩; dsimp only; rw [HBt.out]))
                have B6 : Hid (Below w3.heap.size w3 w6) := by
                  have h1 := (alloc1 wr (.cells #[.string x, .string y, .bool c'] 100)).trans (H5.out.mono (by simp))
                  have h2 := h1.trans (H6.out.mono h1.size)
                  exact HB.out.trans (h2.mono HB.out.size)
                go_roundw
                case rel => exact ⟨i + 1, q2, by omega, by omega, by go_num, by first | rfl | go_num, NX, B6⟩
                case measure => simp [intOf]; omega
            · exfalso
              have h1 := HI.out.2
              rw [List.drop_eq_nil_of_le (by have := kl5.out; omega)] at h1
              simp [bts] at h1
        · have ep : r1 = (p : Int) := by
            have h1 := place_pos (n := n) (T := (A : Int)) (by omega) (by rw [er1]; exact hneg)
            have h2 := Int.emod_nonneg n (b := (A : Int)) nz
            have h3 := Hp.out
            rw [er1] at h1
            omega
          go_wp2_with (go_at_call 55; refine (names_n Dr).mono ?_; rintro e w3 ⟨a, k, c, ks, rfl, H3⟩)
          clear er1 rl rg nz nb hneg ep
          have KR : Hid (ks = rise D) := rise_of H3.out.2.1
          obtain ⟨rb, Hrb⟩ : ∃ rb, Hid (wr.heap.size = rb) := ⟨_, rfl⟩
          have K3 : Hid (Kn w3 rb a k ks) := by rw [← Hrb.out]; exact H3.out.1
          have C3 : Hid (ChD w w3 d m) := ChD.of_below (B0.out.trans (H3.out.2.2.mono B0.out.size))
          have D3 : Hid (Drv w3 d m D full lost) := Dr.out.below H3.out.2.2
          have kl5 : Hid (k = ks.length) := K3.out.len
          have k5 : Hid (k ≤ 512) := by
            have h1 := kl5.out
            rw [KR.out] at h1
            have h2 := hD.out.size
            obtain ⟨es, he⟩ := hD.out.isMap
            rw [he, size_eq] at h2
            rw [he] at h1
            simp [rise, strKeys] at h1
            show _ ≤ _
            omega
          have I0 : Hid (flp (vw D) ks p = flp (vw D) (ks.drop 0) p ∧ p < bts (vw D) (ks.drop 0)) := ⟨by simp, by rw [List.drop_zero, KR.out, TT.out]; exact pl.out⟩
          have pA : p ≤ 576460752290840576 := by have := pl.out; omega
          have k6 : k ≤ 512 := k5.out
          clear H3 hA1 hz
          go_loopw [38, 8] (fun ti tq wr => ∃ i q : Nat, i ≤ k ∧ q ≤ p ∧ ti = .int .i64 (i : Int) ∧ tq = .int .i64 (q : Int) ∧ Hid (flp (vw D) ks p = flp (vw D) (ks.drop i) q ∧ q < bts (vw D) (ks.drop i)) ∧ Hid (Below w3.heap.size w3 wr)) (fun ti _ _ => k - (intOf ti).toNat)
          case atStart => exact ⟨0, p, by omega, by omega, rfl, rfl, I0, Below.refl _ _⟩
          case round =>
            obtain ⟨i, q, hi, hqp, rfl, rfl, HI, HB⟩ := hrel
            clear I0
            have KN : Kn wr rb a k ks := K3.out.keep (fun b h1 h2 => HB.out.block b h2)
            by_cases hlt : i < k
            · obtain ⟨g, rfl, hg1, hg2, hc⟩ := KN.at_ hlt
              have hil : i < ks.length := by have := kl5.out; omega
              obtain ⟨s, Hs⟩ : ∃ s, Hid (ks[i] = s) := ⟨ks[i], (rfl : ks[i] = ks[i])⟩
              rw [Hs.out] at hc
              have dr : Drv wr d m D full lost := D3.out.below HB.out
              have ed : ks.drop i = s :: ks.drop (i + 1) := by rw [List.drop_eq_getElem_cons hil, Hs.out]
              have sz : s.size ≤ 9223372036854775807 := by
                have h1 : s ∈ rise D := by rw [← KR.out, ← Hs.out]; exact List.getElem_mem hil
                unfold rise at h1
                obtain ⟨x, hx, rfl⟩ := List.mem_map.1 h1
                rw [List.mem_mergeSort] at hx
                have h3 := strKeys_le hD.out.own Tryz.underlying9 x hx
                unfold maxLen at h3
                show x.toArray.size ≤ _
                simp
                omega
              have hL := look_f dr.own (s := s) (by unfold maxLen; omega)
              obtain ⟨f, Hf⟩ : ∃ f, Hid ((vw D s).getD f0 = f) := ⟨_, rfl⟩
              rw [Hf.out] at hL
              obtain ⟨x, y, c'⟩ := f
              have c0 := dr.c0
              have hL2 : (Instr.lookup 94 (.map (some m)) (.string s) false).run Tryz.prog wr = .ok (.agg #[.string x, .string y, .bool c']) wr := hL
              have XB : Hid (x.size ≤ 140737488352256) := by have h := hb.out s; rw [Hf.out] at h; exact h
              obtain ⟨B, HBt⟩ : ∃ B, Hid (8 * x.size = B) := ⟨_, rfl⟩
              have eb : Hid (bt (vw D) s = B) := by show _ = _; unfold bt; rw [Hf.out]; exact HBt.out
              have hBm : B ≤ 1125899906818048 := by have := XB.out; have := HBt.out; omega
              have DR : Hid (Drv wr d m D full lost) := dr
              by_cases hq : q < B
              · have hsome : (vw D s).isSome = true := by
                  cases hv : vw D s with
                  | none =>
                    have h1 := Hf.out
                    have h2 := HBt.out
                    rw [hv] at h1
                    have h3 : x = f0.b := by rw [← (show (Fl.mk x y c').b = x from rfl), ← h1]; rfl
                    rw [h3] at h2
                    have h4 : f0.b.size = 0 := rfl
                    omega
                  | some f => rfl
                have hnm : Hid (nm s = true) := dr.good s hsome
                have hz5 : Hid (Maps.size (D.put (kl s) (fd (tn ⟨x, y, c'⟩ q))) = Maps.size D) := by show _ = _; rw [put_size dr.tidy, hsome]; rfl
                have hz6 : Hid (Maps.size (D.put (kl s) (fd (tn ⟨x, y, c'⟩ q))) ≤ 512) := by show _ ≤ _; rw [hz5.out]; exact dr.size
                have FE : Hid (flp (vw D) ks p = upd (vw D) s (some (tn ⟨x, y, c'⟩ q))) := by show _ = _; rw [HI.out.1, ed, flp_here _ _ _ _ (by rw [eb.out]; exact hq), Hf.out]
                have HP : Hid (q < 8 * x.size) := by show _ < _; rw [HBt.out]; exact hq
                have IM : Hid (IsMap D) := dr.isMap
                clear dr hL hsome KN ed
                go_wp2_with (first
                  | (go_at_call 66; refine (bits_n ⟨x, y, c'⟩ XB _).mono ?_; rintro e w5 ⟨rfl, H5⟩; dsimp only; rw [HBt.out]
                     have x0 : w5.cell? ⟨wr.heap.size, 0, none⟩ = some (.string x) := (H5.out.cell (p := ⟨wr.heap.size, 0, none⟩) (by simp)).trans (by simp)
                     have x1 : w5.cell? ⟨wr.heap.size, 1, none⟩ = some (.string y) := (H5.out.cell (p := ⟨wr.heap.size, 1, none⟩) (by simp)).trans (by simp)
                     have x2 : w5.cell? ⟨wr.heap.size, 2, none⟩ = some (.bool c') := (H5.out.cell (p := ⟨wr.heap.size, 2, none⟩) (by simp)).trans (by simp))
                  | (go_at_call 67; refine (turned_n ⟨x, y, c'⟩ q HP XB _).mono ?_; rintro e w6 ⟨rfl, H6⟩
                     have D6 : Hid (Drv w6 d m D full lost) := ((DR.out.below (alloc1 wr _)).below H5.out).below H6.out)
                  | (go_at_call 56; refine (keep_n D6 s hnm _ hz6).mono ?_; rintro e w7 ⟨rfl, H7⟩))
                go_ret
                refine .inr ⟨by rw [TT.out]; have := pl.out; omega, rfl, _, H7.out.1, ?_, hz5.out, fun t => ?_⟩
                · exact C3.out.trans ((ChD.of_below HB.out).trans ((ChD.of_below (alloc1 wr _)).trans ((ChD.of_below H5.out).trans ((ChD.of_below H6.out).trans H7.out.2))))
                · rw [TT.out, Hp.out, ← KR.out, FE.out, vw_put IM.out]
                  rfl
              · have lq : B ≤ q := by omega
                obtain ⟨q2, Hq2⟩ : ∃ q2, Hid (q - B = q2) := ⟨_, rfl⟩
                have iq : (q : Int) - (B : Int) = (q2 : Int) := by have := Hq2.out; omega
                have NX : Hid (flp (vw D) ks p = flp (vw D) (ks.drop (i + 1)) q2 ∧ q2 < bts (vw D) (ks.drop (i + 1))) := by
                  have h1 := HI.out
                  rw [ed, flp_next _ _ _ _ (by rw [eb.out]; exact hq), eb.out, Hq2.out, bts_cons, eb.out] at h1
                  exact ⟨h1.1, by have := Hq2.out; omega⟩
                have q2p : q2 ≤ p := by omega
                have pA2 : q ≤ 576460752290840576 := by omega
                clear dr hL KN ed HI
                have tok : True := trivial
                go_wp2_with (first
                  | (go_at_call 66; have _t := tok; refine (bits_n ⟨x, y, c'⟩ XB _).mono ?_; rintro e w5 ⟨rfl, H5⟩; dsimp only; rw [HBt.out]
                     have x0 : w5.cell? ⟨wr.heap.size, 0, none⟩ = some (.string x) := (H5.out.cell (p := ⟨wr.heap.size, 0, none⟩) (by simp)).trans (by simp)
                     have x1 : w5.cell? ⟨wr.heap.size, 1, none⟩ = some (.string y) := (H5.out.cell (p := ⟨wr.heap.size, 1, none⟩) (by simp)).trans (by simp)
                     have x2 : w5.cell? ⟨wr.heap.size, 2, none⟩ = some (.bool c') := (H5.out.cell (p := ⟨wr.heap.size, 2, none⟩) (by simp)).trans (by simp)
                     clear tok)
                  | (go_at_call 66; refine (bits_n ⟨x, y, c'⟩ XB _).mono ?_; rintro e w6 ⟨rfl, H6⟩; dsimp only; rw [HBt.out]))
                have B6 : Hid (Below w3.heap.size w3 w6) := by
                  have h1 := (alloc1 wr (.cells #[.string x, .string y, .bool c'] 100)).trans (H5.out.mono (by simp))
                  have h2 := h1.trans (H6.out.mono h1.size)
                  exact HB.out.trans (h2.mono HB.out.size)
                go_roundw
                case rel => exact ⟨i + 1, q2, by omega, by omega, by go_num, by first | rfl | go_num, NX, B6⟩
                case measure => simp [intOf]; omega
            · exfalso
              have h1 := HI.out.2
              rw [List.drop_eq_nil_of_le (by have := kl5.out; omega)] at h1
              simp [bts] at h1
    · intro x f k1 ya yb w1 cnt1 hkey hlk hRv hat hrg1 hlt hg1 hs1 hen
      obtain ⟨rfl, hv⟩ := vw_at (y := (ya, yb)) hkey hRv hat
      obtain ⟨x1, y1, c1⟩ := f
      have HB : Hid (x1.size ≤ 140737488352256) := by have h := hb.out (ba x); rw [hv] at h; exact h
      obtain ⟨q, Hq⟩ : ∃ q, Hid (8 * x1.size = q) := ⟨_, rfl⟩
      have hq : q ≤ 1125899906818048 := by have := HB.out; have := Hq.out; omega
      have hA1 : A ≤ 576460752290840576 := hA.out
      have NX : Hid (w1.ranges Tryz.prog 9 Rf m r Z D (fun z => left z && !z.sameKey (.string x)) cnt1 ∧ Collected D (fun z => left z && !z.sameKey (.string x)) (ss ++ [x]) ∧ A + q = bts (vw D) ((ss ++ [x]).map ba) ∧ (ss ++ [x]).length + cnt1 ≤ 512 ∧ Below w.heap.size w w1) := by
        refine ⟨hrg1, HR.out.2.1.step hlk hat, ?_, ?_, HR.out.2.2.2.2.grown hg1 HR.out.2.2.2.2.size (fun k h => by cases h; have := Hr.out; omega)⟩
        · rw [List.map_append]
          show _ = bts (vw D) (ss.map ba ++ [ba x])
          rw [bts_snoc, ← HR.out.2.2.1]
          have e1 : bt (vw D) (ba x) = q := by unfold bt; rw [hv]; exact Hq.out
          rw [e1]
        · have := HR.out.2.2.2.1
          simp
          omega
      have LT : Hid (cnt1 < cnt) := hlt
      have LR : Hid (wr.rangeLeft m r = cnt) := hrg.left_eq
      clear hrg hrg1 hg1 hs1 hat hRv hlk hkey hv HR hlt
      go_wp2_with (go_at_call 66; refine (bits_n ⟨x1, y1, c1⟩ HB _).mono ?_; rintro e w2 ⟨rfl, H2⟩; dsimp only; rw [Hq.out])
      have b2 : Below w1.heap.size w1 w2 := (alloc1 w1 _).trans (H2.out.mono (by simp))
      have NX2 : Hid (w2.ranges Tryz.prog 9 Rf m r Z D (fun z => left z && !z.sameKey (.string x)) cnt1 ∧ Below w.heap.size w w2) := ⟨NX.out.1.kept (grown_below b2) (by simp) (by simp), NX.out.2.2.2.2.trans (b2.mono NX.out.2.2.2.2.size)⟩
      go_roundw
      case rel => exact ⟨_, cnt1, A + q, ss ++ [x], by go_num, NX2.out.1, NX.out.2.1, NX.out.2.2.1, NX.out.2.2.2.1, NX2.out.2⟩
      case measure => rw [NX2.out.1.left_eq, LR.out]; exact LT.out
end Go.Proofs.YtkdgakcmhnadfaaGreatDoor

/- Ld -/
/- Flip by what lies under each name; the names of a drive. -/
namespace Go.Proofs.YtkdgakcmhnadfaaGreatDoor
open Go.ChangeShapes Go.WideShapes Go.ChangeAt Go.RowKit Go.Maps Go.Sort Go.Shelf
set_option maxRecDepth 20000
set_option linter.unusedVariables false
set_option linter.unusedSimpArgs false
theorem mem_strKeys {w : World} {m n : Nat} {D : DataW Unit} (hown : w.ownsMap Tryz.prog 9 Rf m n D) (x : List UInt8) : x ∈ strKeys D ↔ has D (.string x) = true := by
  obtain ⟨es, rfl, hko⟩ := hown.keysOf
  have hk : ∀ p ∈ es, ∃ x, p.1 = .string x := fun p hp => by
    obtain ⟨v, hv⟩ := hko p hp
    obtain ⟨x, _, hx, _⟩ := Maps.keyOf_str Tryz.underlying9 hv
    exact ⟨x, hx⟩
  rw [has_eq, List.any_eq_true]
  show x ∈ es.map (fun p => strOf p.1) ↔ _
  rw [List.mem_map]
  constructor
  · rintro ⟨p, hp', rfl⟩
    obtain ⟨a, ha⟩ := hk p hp'
    exact ⟨p, hp', by rw [ha]; simp [Lit.sameKey, strOf]⟩
  · rintro ⟨p, hp', hs⟩
    obtain ⟨a, ha⟩ := hk p hp'
    rw [ha] at hs
    exact ⟨p, hp', by rw [ha]; simpa [Lit.sameKey, strOf] using hs⟩
theorem nodup_strKeys {w : World} {m n : Nat} {D : DataW Unit} (hown : w.ownsMap Tryz.prog 9 Rf m n D) : (strKeys D).Nodup := by
  obtain ⟨es, hD, hpw, _⟩ := hown.entries klaw
  obtain ⟨es', hD', hko⟩ := hown.keysOf
  obtain rfl : es = es' := by rw [hD] at hD'; simpa using hD'
  subst hD
  have hk : ∀ p ∈ es, ∃ x, p.1 = .string x := fun p hp => by
    obtain ⟨v, hv⟩ := hko p hp
    obtain ⟨x, _, hx, _⟩ := Maps.keyOf_str Tryz.underlying9 hv
    exact ⟨x, hx⟩
  show (es.map fun p => strOf p.1).Nodup
  refine List.pairwise_map.2 (hpw.imp_of_mem fun {p q} hp' hq' hne e => hne ?_)
  obtain ⟨a, ha⟩ := hk p hp'
  obtain ⟨b, hb⟩ := hk q hq'
  rw [ha, hb] at e ⊢
  exact congrArg _ e
theorem mem_rise {w : World} {m n : Nat} {D : DataW Unit} (hown : w.ownsMap Tryz.prog 9 Rf m n D) (t : ByteArray) : t ∈ rise D ↔ (vw D t).isSome = true := by
  unfold rise
  rw [List.mem_map, vw_some]
  constructor
  · rintro ⟨x, hx, rfl⟩
    rw [List.mem_mergeSort, mem_strKeys hown] at hx
    simpa [kl] using hx
  · intro h
    refine ⟨t.data.toList, ?_, by cases t; simp⟩
    rw [List.mem_mergeSort, mem_strKeys hown]
    exact h
theorem ba_inj {x y : List UInt8} (h : ba x = ba y) : x = y := by simpa using h
theorem nodup_rise {w : World} {m n : Nat} {D : DataW Unit} (hown : w.ownsMap Tryz.prog 9 Rf m n D) : (rise D).Nodup := by
  unfold rise
  refine List.pairwise_map.2 ?_
  exact (((List.mergeSort_perm _ _).nodup_iff).2 (nodup_strKeys hown)).imp (fun h e => h (ba_inj e))
theorem rise_one {w : World} {m n : Nat} {D : DataW Unit} (hown : w.ownsMap Tryz.prog 9 Rf m n D) {s : ByteArray} (h : ∀ t, (vw D t).isSome = true ↔ t = s) : rise D = [s] := by
  have h1 : ∀ t, t ∈ rise D ↔ t = s := fun t => (mem_rise hown t).trans (h t)
  have h2 := nodup_rise hown
  match hr : rise D with
  | [] => have := (h1 s).2 rfl; rw [hr] at this; cases this
  | [a] => rw [(h1 a).1 (by rw [hr]; simp)]
  | a :: b :: l =>
    have ea := (h1 a).1 (by rw [hr]; simp)
    have eb := (h1 b).1 (by rw [hr]; simp)
    rw [hr, ea, eb] at h2
    simp at h2
/- a drive with one file: the bit is turned there -/
theorem flip_one {w : World} {d m : Nat} {v : ByteArray → Option Fl} {k : Nat} {fu : Bool} (hD : Hid (Dw w d m v k fu)) (n : Int) (hn1 : -9223372036854775808 ≤ n) (hn2 : n ≤ 9223372036854775807) {s : ByteArray} {f : Fl} (hs : Hid (∀ t, v t = if t = s then some f else none)) (h0 : Hid (0 < f.b.size)) (hb : Hid (f.b.size ≤ 140737488352256)) :
    Calls Tryz.prog 23 #[.pointer (some ⟨d, 0, none⟩), .int .i64 n] w fun e w' => ∃ p, e = .returned (.bool true) ∧ Hid (p < 8 * f.b.size ∧ Dw w' d m (upd v s (some (tn f p))) k fu ∧ ChD w w' d m) := by
  obtain ⟨D, lo, h1, h2, h3⟩ := hD.out
  have hv : vw D = v := funext h2
  have hr : rise D = [s] := rise_one h1.own (fun t => by
    rw [hv, hs.out t]
    split
    · rename_i h; simp [h]
    · rename_i h; simp [h])
  have hvs : v s = some f := by rw [hs.out s, if_pos rfl]
  have hT : bts (vw D) (rise D) = 8 * f.b.size := by
    rw [hr, hv, bts_cons, bts_nil]
    unfold bt
    rw [hvs]
    rfl
  refine (flip_n (show Hid (Drv w d m D fu lo) from h1) n hn1 hn2 (fun t => by
    rw [hv, hs.out t]
    split
    · exact hb.out
    · show f0.b.size ≤ _
      have : f0.b.size = 0 := rfl
      omega)).mono ?_
  intro e w' H
  rcases H.out with ⟨hz, _⟩ | ⟨_, rfl, D', g1, g2, g3, g4⟩
  · rw [hT] at hz
    have := h0.out
    omega
  · rw [hT] at g4
    obtain ⟨p, Hp⟩ : ∃ p : Nat, (n % ((8 * f.b.size : Nat) : Int)).toNat = p := ⟨_, rfl⟩
    have hp : p < 8 * f.b.size := by
      have e1 := Int.emod_lt_of_pos n (b := ((8 * f.b.size : Nat) : Int)) (by have := h0.out; omega)
      have e2 := Int.emod_nonneg n (b := ((8 * f.b.size : Nat) : Int)) (by have := h0.out; omega)
      omega
    refine ⟨p, rfl, hp, ⟨D', lo, g1, fun t => ?_, by omega⟩, g2⟩
    rw [g4 t, Hp, hr, hv, flp_here _ _ _ _ (by unfold bt; rw [hvs]; exact hp), hvs]
    rfl
end Go.Proofs.YtkdgakcmhnadfaaGreatDoor
