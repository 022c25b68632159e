import Derived.Test.YtppibcambhmomaaDoorPp
import Derived.Test.YtppibcambhmomaaDoorProg
import Derived.Test.YtppibcambhmomaaDoorP00
import Derived.Lib.AppendStr
import Derived.WalkLawsBesides
namespace Go.Proofs.YtppibcambhmomaaDoor
set_option maxRecDepth 20000
set_option linter.unusedVariables false
set_option linter.unusedSimpArgs false
def enc (n : Nat) : List Nat := if n < 128 then [n] else (n % 128 + 128) :: enc (n / 128)
termination_by n
decreasing_by omega
theorem enc_lt {n : Nat} (h : n < 128) : enc n = [n] := by rw [enc, if_pos h]
theorem enc_ge {n : Nat} (h : 128 <= n) : enc n = (n % 128 + 128) :: enc (n / 128) := by rw [enc, if_neg (by omega)]
theorem enc_ind {p : Nat -> Prop} (h0 : ∀ n, n < 128 -> p n) (h1 : ∀ n, 128 <= n -> p (n / 128) -> p n) (n : Nat) : p n := by
 induction n using Nat.strongRecOn with
 | ind n ih =>
   by_cases h : n < 128
   . exact h0 n h
   . exact h1 n (by omega) (ih _ (by omega))
theorem enc_bytes (n : Nat) : ∀ x ∈ enc n, x < 256 := by
 refine enc_ind (p := fun n => ∀ x ∈ enc n, x < 256) (fun n h => ?_) (fun n h ih => ?_) n
 . rw [enc_lt h]
   simp
   omega
 . rw [enc_ge h]
   intro x hx
   rcases List.mem_cons.1 hx with rfl | hx
   . omega
   . exact ih x hx
theorem enc_pos (n : Nat) : 1 <= (enc n).length := by
 by_cases h : n < 128
 . rw [enc_lt h]; simp
 . rw [enc_ge (by omega)]; simp
theorem enc_len : ∀ (k n : Nat), n < 128 ^ (k + 1) -> (enc n).length <= k + 1
 | 0, n, h => by rw [enc_lt (by simpa using h)]; simp
 | k + 1, n, h => by
   by_cases h1 : n < 128
   . rw [enc_lt h1]; simp
   . rw [enc_ge (by omega)]
     have := enc_len k (n / 128) (by rw [Nat.pow_succ] at h; exact Nat.div_lt_of_lt_mul (by rw [Nat.mul_comm]; exact h))
     simp only [List.length_cons]
     omega
theorem enc_nine {n : Nat} (h : n < 9223372036854775808) : (enc n).length <= 9 := enc_len 8 n (by simpa using h)
def nat : Nat -> List Nat -> Nat -> Nat -> Nat × Nat × Bool
 | 0, _, _, _ => (0, 0, false)
 | f + 1, l, i, acc => if i < l.length then
   (if l.getD i 0 < 128 then (acc + l.getD i 0 % 128 * 128 ^ i, i + 1, decide (i = 0) || decide (0 < l.getD i 0)) else nat f l (i + 1) (acc + l.getD i 0 % 128 * 128 ^ i))
   else (0, 0, false)
theorem nat_all : ∀ (f m : Nat) (p t : List Nat) (acc : Nat), (enc m).length <= f -> (p = [] ∨ 0 < m) -> nat f (p ++ (enc m ++ t)) p.length acc = (acc + m * 128 ^ p.length, p.length + (enc m).length, true)
 | 0, m, p, t, acc, h, hp => by have := enc_pos m; omega
 | f + 1, m, p, t, acc, h, hp => by
   have hl : p.length < (p ++ (enc m ++ t)).length := by
    have := enc_pos m
    simp only [List.length_append]
    omega
   rw [nat, if_pos hl]
   by_cases h1 : m < 128
   . have g : (p ++ (enc m ++ t)).getD p.length 0 = m := by rw [enc_lt h1]; simp
     rw [g, if_pos h1, Nat.mod_eq_of_lt h1, enc_lt h1]
     rcases hp with rfl | hp
     . simp
     . simp [hp]
   . have g : (p ++ (enc m ++ t)).getD p.length 0 = m % 128 + 128 := by rw [enc_ge (by omega)]; simp
     rw [g, if_neg (by omega), enc_ge (by omega)]
     have ih := nat_all f (m / 128) (p ++ [m % 128 + 128]) t (acc + m % 128 * 128 ^ p.length) (by rw [enc_ge (by omega)] at h; simpa using h) (.inr (by omega))
     simp only [List.append_assoc, List.singleton_append, List.length_append, List.length_singleton, List.cons_append, List.nil_append] at ih ⊢
     rw [show (m % 128 + 128) % 128 = m % 128 by omega, ih]
     have e : m * 128 ^ p.length = m % 128 * 128 ^ p.length + m / 128 * 128 ^ (p.length + 1) := by
      rw [Nat.pow_succ, <- Nat.mul_assoc, Nat.mul_right_comm, <- Nat.add_mul]
      congr 1
      omega
     rw [e]
     simp only [List.length_cons, Prod.mk.injEq, and_true]
     omega
theorem nat_enc {n : Nat} (h : n < 9223372036854775808) (t : List Nat) : nat 9 (enc n ++ t) 0 0 = (n, (enc n).length, true) := by
 have := nat_all 9 n [] t 0 (enc_nine h) (.inl rfl)
 simpa using this
theorem nat_bound : ∀ (f : Nat) (l : List Nat) (i acc : Nat), acc < 128 ^ i -> (nat f l i acc).2.2 = true -> (nat f l i acc).1 < 128 ^ (i + f) /\ i < (nat f l i acc).2.1 /\ (nat f l i acc).2.1 <= l.length /\ (nat f l i acc).2.1 <= i + f
 | 0, l, i, acc, h, e => by simp [nat] at e
 | f + 1, l, i, acc, h, e => by
   rw [nat] at e ⊢
   have hacc : acc + l.getD i 0 % 128 * 128 ^ i < 128 ^ (i + 1) := by
    rw [Nat.pow_succ]
    have : l.getD i 0 % 128 * 128 ^ i <= 127 * 128 ^ i := Nat.mul_le_mul_right _ (by omega)
    omega
   by_cases hi : i < l.length
   . rw [if_pos hi] at e ⊢
     by_cases hb : l.getD i 0 < 128
     . rw [if_pos hb] at e ⊢
       refine ⟨Nat.lt_of_lt_of_le hacc (Nat.pow_le_pow_right (by omega) (by omega)), ?_, ?_, ?_⟩ <;> simp <;> omega
     . rw [if_neg hb] at e ⊢
       have := nat_bound f l (i + 1) _ hacc e
       rw [show i + 1 + f = i + (f + 1) by omega] at this
       exact ⟨this.1, by omega, this.2.2.1, this.2.2.2⟩
   . rw [if_neg hi] at e
     simp at e
end Go.Proofs.YtppibcambhmomaaDoor
namespace Go.Proofs.YtppibcambhmomaaDoor
set_option maxRecDepth 20000
open Go.ChangeShapes Go.WideShapes Go.ChangeAt Go.RowKit
set_option linter.unusedVariables false
set_option linter.unusedSimpArgs false
theorem spell_go (l : List Nat) : ∀ r : ByteArray, ((l.map fun x : Nat => (x : Int)).foldl (fun r n => r.push (UInt8.ofNat n.toNat)) r).data.toList = r.data.toList ++ l.map UInt8.ofNat := by
 induction l with
 | nil => intro r; simp
 | cons x l ih =>
   intro r
   simp only [List.map_cons, List.foldl_cons]
   rw [ih]
   simp [ByteArray.push]
theorem spell_data (l : List Nat) : (spell l).data.toList = l.map UInt8.ofNat := by
 have h := spell_go l ByteArray.empty
 have e : ByteArray.empty.data.toList = [] := rfl
 rw [e, List.nil_append] at h
 exact h
theorem ofNat_back {l : List Nat} (h : ∀ x ∈ l, x < 256) : (l.map UInt8.ofNat).map UInt8.toNat = l := by
 rw [List.map_map]
 conv => rhs; rw [<- List.map_id l]
 refine List.map_congr_left fun x hx => ?_
 have := h x hx
 simp
 omega
theorem spell_size (l : List Nat) : (spell l).size = l.length := by
 have h := congrArg List.length (spell_data l)
 simp at h
 exact h
theorem spell_cells {l : List Nat} (h : ∀ x ∈ l, x < 256) : Lib.strCells (spell l) = l.map bv := by
 unfold Lib.strCells
 rw [spell_data, List.map_map]
 refine List.map_congr_left fun x hx => ?_
 have := h x hx
 simp [bv]
 omega
theorem spell_beq {a b : List Nat} (ha : ∀ x ∈ a, x < 256) (hb : ∀ x ∈ b, x < 256) : ((spell a).toList == (spell b).toList) = decide (a = b) := by
 rw [ByteArray.toList_eq, ByteArray.toList_eq, spell_data, spell_data]
 by_cases h : a = b
 . subst h; simp
 . have h2 : ¬ (a.map UInt8.ofNat = b.map UInt8.ofNat) := fun e => h (by rw [<- ofNat_back ha, <- ofNat_back hb, e])
   simp [h, h2]
structure Own (w : World) (B : Nat) (a : Option Addr) (n c : Nat) (L : List Nat) : Prop where
 len : n = L.length
 own : w.ownsRow B 5 1 (.slice a n c) n (L.map bv)
 lt : ∀ x ∈ L, x < 256
def blkOf (a : Option Addr) : Option Nat := a.map Addr.block
theorem ownBlock_slice (a : Option Addr) (n c : Nat) : (Value.slice a n c).ownBlock = blkOf a := by cases a <;> rfl
def New (w : World) (a a' : Option Addr) : Prop := ∀ q, blkOf a' = some q -> blkOf a = some q ∨ w.heap.size <= q
theorem Own.nil (w : World) (B : Nat) : Own w B none 0 0 [] := ⟨rfl, World.ownsRow_nil w B 5 1, by simp⟩
theorem Own.cap0 {w : World} {B : Nat} {a : Option Addr} {n c : Nat} {L : List Nat} (h : Own w B a n c L) : a = none -> c = 0 := by
 rcases h.own.2 with ⟨h1, _⟩ | ⟨g, cap, cur, h1, _⟩
 . simp at h1
   exact fun _ => h1.2.2
 . simp at h1
   intro e
   rw [e] at h1
   simp at h1
theorem Own.ge {w : World} {B : Nat} {a : Option Addr} {n c : Nat} {L : List Nat} (h : Own w B a n c L) : ∀ q, blkOf a = some q -> B <= q /\ q < w.heap.size := fun q hq => h.own.lt q (by rw [ownBlock_slice]; exact hq)
theorem Own.sln {w : World} {B : Nat} {a : Option Addr} {n c : Nat} {L : List Nat} (h : Own w B a n c L) (h2 : n <= 140737488352256) : Sln w a n L := by
 have hl := h.len
 rcases h.own.2 with ⟨h1, h0⟩ | ⟨g, cap, cur, h1, hbg, hg, _⟩
 . simp at h1
   have : L = [] := List.length_eq_zero_iff.1 (by omega)
   subst this
   exact ⟨hl, by simp, by simp, .inl rfl⟩
 . simp only [Value.slice.injEq] at h1
   have ha := h1.1
   subst ha
   have := own_sln h.own h.lt (by omega)
   exact this
theorem Own.base {w : World} {B B' : Nat} {a : Option Addr} {n c : Nat} {L : List Nat} (h : Own w B a n c L) (hB : B' <= B) : Own w B' a n c L := by
 refine ⟨h.len, ⟨h.own.1, ?_⟩, h.lt⟩
 rcases h.own.2 with h1 | ⟨g, cap, cur, h1, h2, h3⟩
 . exact .inl h1
 . exact .inr ⟨g, cap, cur, h1, by omega, h3⟩
theorem Own.block {w w' : World} {B : Nat} {a : Option Addr} {n c : Nat} {L : List Nat} (h : Own w B a n c L) (hb : ∀ q, blkOf a = some q -> w'.heap[q]? = w.heap[q]?) : Own w' B a n c L := by
 refine ⟨h.len, ⟨h.own.1, ?_⟩, h.lt⟩
 rcases h.own.2 with h1 | ⟨g, cap, cur, h1, h2, h3, h4⟩
 . exact .inl h1
 . simp only [Value.slice.injEq] at h1
   obtain ⟨rfl, _, rfl⟩ := h1
   exact .inr ⟨g, c, cur, rfl, h2, (hb g rfl).trans h3, h4⟩
theorem app_any {w : World} {B : Nat} {a : Option Addr} {n c : Nat} {L : List Nat} {a2 : Option Addr} {m c2 : Nat} {l : List Nat} (ho : Own w B a n c L) (hS : Sln w a2 m l) (hc : a2 = none -> c2 = 0) (hb : n + m <= 140737488352256) (hB : B <= w.heap.size) :
  ∃ a' c' w', (Builtin.append_ #[27, 27] 27 #[.slice a n c,.slice a2 m c2]).run Tryd.prog w = .ok (.slice a' (n + m) c') w' /\ Own w' B a' (n + m) c' (L ++ l) /\ w.grownBy w' (blkOf a) /\ New w a a' := by
 obtain ⟨i, hi, hz0, hz1, hz2⟩ := info_parts info5
 have hlt : ∀ x ∈ L ++ l, x < 256 := by
  intro x hx
  rcases List.mem_append.1 hx with h | h
  . exact ho.lt x h
  . exact hS.lt x h
 have own := ho.own
 have e := hS.len
 have eL := ho.len
 have elen : n + m = (L ++ l).length := by simp; omega
 -- what is had of a run whose value owns the row
 have fin : ∀ (v' : Value) (w' : World), (Builtin.append_ #[27, 27] 27 #[.slice a n c,.slice a2 m c2]).run Tryd.prog w = .ok v' w' -> w'.ownsRow B 5 1 v' (n + m) (L.map bv ++ l.map bv) -> w.grownBy w' (blkOf a) -> (∀ q, v'.ownBlock = some q -> blkOf a = some q ∨ w.heap.size <= q) →
   ∃ a' c' w', (Builtin.append_ #[27, 27] 27 #[.slice a n c,.slice a2 m c2]).run Tryd.prog w = .ok (.slice a' (n + m) c') w' /\ Own w' B a' (n + m) c' (L ++ l) /\ w.grownBy w' (blkOf a) /\ New w a a' := by
  intro v' w' hr hown hg hn
  rw [<- List.map_append] at hown
  rcases hown.2 with ⟨h1, h0⟩ | ⟨g', cap', cur, h1, _⟩
  . rw [h1] at hr hown
    refine ⟨none, 0, w', ?_, ⟨elen, ?_, hlt⟩, hg, fun q hq => by simp [blkOf] at hq⟩
    . rw [hr, h0]
    . rw [h0] at hown ⊢; exact hown
  . rw [h1] at hr hown hn
    exact ⟨_, cap', w', hr, ⟨elen, hown, hlt⟩, hg, fun q hq => hn q (by rw [ownBlock_slice]; exact hq)⟩
 by_cases hl : l = []
 . subst hl
   have e0 : m = 0 := e
   subst e0
   cases a2 with
   | none =>
     have c0 := hc rfl
     subst c0
     exact fin _ w (run_append_owned_none (P := Tryd.prog) w B 27 27 5 i 1 Tryd.underlying27 hi _ n _ own) (by simpa using own) (World.grownBy.refl _ _) (fun q hq => .inl (by rw [ownBlock_slice] at hq; exact hq))
   | some ad =>
     obtain ⟨v', w', hrun, hown, hgr, hiff⟩ := run_append_own (P := Tryd.prog) w B 27 27 5 i (.int .u8 0) 1 1 Tryd.underlying27 hi hz0 hz1 hz2 rfl (by decide) _ n (L.map bv) own ad 0 c2 [] rfl (by simp) (by simp) (by unfold maxLen; omega) (by omega) hB
     rw [ownBlock_slice] at hgr
     refine fin v' w' hrun (by simpa using hown) hgr ?_
     rcases own.2 with ⟨h1, h0⟩ | ⟨g, cap, cur, h1, h2, h3, h4, h5⟩
     . have := hiff.2 ⟨h1, rfl⟩
       rw [this]
       intro q hq
       simp [Value.ownBlock] at hq
     . simp only [Value.slice.injEq, true_and] at h1
       obtain ⟨rfl, rfl⟩ := h1
       obtain ⟨w2, hr2, _, _⟩ := run_append_fits (P := Tryd.prog) w B 27 27 5 i 1 Tryd.underlying27 hi hz1 g n c (L.map bv) own ad 0 c2 [] rfl (by simp) (by simp) (by omega)
       rw [hrun] at hr2
       simp only [Result.ok.injEq] at hr2
       rw [hr2.1]
       exact fun q hq => .inl (by rw [ownBlock_slice] at hq; exact hq)
 . obtain ⟨b, off, rfl, _, r⟩ := hS.sli.2.2.resolve_left hl
   obtain ⟨v', w', hrun, hown, hgr, hiff⟩ := run_append_own (P := Tryd.prog) w B 27 27 5 i (.int .u8 0) 1 1 Tryd.underlying27 hi hz0 hz1 hz2 rfl (by decide) _ n (L.map bv) own ⟨b, off, none⟩ m c2 (l.map bv) (by simp [e]) (map_cells r) (map_one _) (by unfold maxLen; omega) (by omega) hB
   rw [ownBlock_slice] at hgr
   refine fin v' w' hrun hown hgr ?_
   have hpos : 0 < m := by rw [e]; exact List.length_pos_iff.2 hl
   rcases own.2 with ⟨h1, h0⟩ | ⟨g, cap, cur, h1, h2, h3, h4, h5⟩
   . simp at h1
     obtain ⟨rfl, rfl, rfl⟩ := h1
     have hr2 := run_append_nil (P := Tryd.prog) w 27 27 5 i (.int .u8 0) Tryd.underlying27 hi hz0 ⟨b, off, none⟩ m c2 (l.map bv) (by simp [e, hz1]) (map_cells r) hpos (by omega) (by rw [hz2]; omega)
     rw [hrun] at hr2
     simp only [Result.ok.injEq] at hr2
     rw [hr2.1]
     intro q hq
     simp [Value.ownBlock] at hq
     exact .inr (by omega)
   . simp only [Value.slice.injEq, true_and] at h1
     obtain ⟨rfl, rfl⟩ := h1
     by_cases hroom : n + m <= c
     . obtain ⟨w2, hr2, _, _⟩ := run_append_fits (P := Tryd.prog) w B 27 27 5 i 1 Tryd.underlying27 hi hz1 g n c (L.map bv) own ⟨b, off, none⟩ m c2 (l.map bv) (by simp [e]) (map_cells r) (map_one _) hroom
       rw [hrun] at hr2
       simp only [Result.ok.injEq] at hr2
       rw [hr2.1]
       exact fun q hq => .inl (by rw [ownBlock_slice] at hq; exact hq)
     . have hr2 := run_append_grow (P := Tryd.prog) w 27 27 5 i (.int .u8 0) Tryd.underlying27 hi hz0 ⟨g, 0, none⟩ n c (L.map bv) (by simp [eL, hz1]) (fun j u hu => own.cells (g := g) rfl j u hu) ⟨b, off, none⟩ m c2 (l.map bv) (by simp [e, hz1]) (map_cells r) (by omega) (by omega) (growslice_fits (by omega) (by rw [hz2]; omega))
       rw [hrun] at hr2
       simp only [Result.ok.injEq] at hr2
       rw [hr2.1]
       intro q hq
       simp [Value.ownBlock] at hq
       exact .inr (by omega)
theorem app_anys {w : World} {B : Nat} {a : Option Addr} {n c : Nat} {L : List Nat} {m : Nat} {l : List Nat} (ho : Own w B a n c L) (hl : ∀ x ∈ l, x < 256) (hm : m = l.length) (hb : n + m <= 140737488352256) (hB : B <= w.heap.size) :
  ∃ a' c' w', (Builtin.append_ #[27, 9] 27 #[.slice a n c,.string (spell l)]).run Tryd.prog w = .ok (.slice a' (n + m) c') w' /\ Own w' B a' (n + m) c' (L ++ l) /\ w.grownBy w' (blkOf a) /\ New w a a' := by
 obtain ⟨i, hi, hz0, hz1, hz2⟩ := info_parts info5
 have hlt : ∀ x ∈ L ++ l, x < 256 := by
  intro x hx
  rcases List.mem_append.1 hx with h | h
  . exact ho.lt x h
  . exact hl x h
 have own := ho.own
 have eL := ho.len
 have es : (spell l).size = m := by rw [spell_size, hm]
 have elen : n + m = (L ++ l).length := by simp; omega
 obtain ⟨v', w', hrun, hown, hgr, hiff⟩ := Lib.run_append_own_string (P := Tryd.prog) w B 27 9 27 5 i Tryd.underlying27 Tryd.underlying9 hi hz0 hz1 hz2 (.slice a n c) n (L.map bv) own (spell l) (by unfold maxLen; omega) (by omega) hB
 rw [ownBlock_slice] at hgr
 rw [es, spell_cells hl, <- List.map_append] at hown
 have hn : ∀ q, v'.ownBlock = some q -> blkOf a = some q ∨ w.heap.size <= q := by
  rcases own.2 with ⟨h1, h0⟩ | ⟨g, cap, cur, h1, h2, h3, h4, h5, h6, h7⟩
  . by_cases hm0 : (spell l).size = 0
    . have := hiff.2 ⟨h1, hm0⟩
      rw [this]
      intro q hq
      simp [Value.ownBlock] at hq
    . simp at h1
      obtain ⟨rfl, rfl, rfl⟩ := h1
      have hr2 := run_append_nil_string (P := Tryd.prog) w 27 9 27 5 i (.int .u8 0) Tryd.underlying27 Tryd.underlying9 hi hz0 (spell l) (by omega) (by omega) (by rw [hz2]; omega)
      rw [hrun] at hr2
      simp only [Result.ok.injEq] at hr2
      rw [hr2.1]
      intro q hq
      simp [Value.ownBlock] at hq
      exact .inr (by omega)
  . simp only [Value.slice.injEq, true_and] at h1
    obtain ⟨rfl, rfl⟩ := h1
    by_cases hroom : n + (spell l).size <= c
    . have hr2 := Lib.run_append_room_string (P := Tryd.prog) w 27 9 27 5 i Tryd.underlying27 Tryd.underlying9 hi hz1 g n c cur h3 (spell l) hroom (by rw [h6]; omega)
      rw [hrun] at hr2
      simp only [Result.ok.injEq] at hr2
      rw [hr2.1]
      exact fun q hq => .inl (by rw [ownBlock_slice] at hq; exact hq)
    . have hr2 := Lib.run_append_grow_string (P := Tryd.prog) w 27 9 27 5 i (.int .u8 0) Tryd.underlying27 Tryd.underlying9 hi hz0 ⟨g, 0, none⟩ n c (L.map bv) (by simp [eL, hz1]) (fun j u hu => own.cells (g := g) rfl j u hu) (spell l) (by omega) (by omega) (growslice_fits (by omega) (by rw [hz2]; omega))
      rw [hrun] at hr2
      simp only [Result.ok.injEq] at hr2
      rw [hr2.1]
      intro q hq
      simp [Value.ownBlock] at hq
      exact .inr (by omega)
 rcases hown.2 with ⟨h1, h0⟩ | ⟨g', cap', cur, h1, _⟩
 . rw [h1] at hrun hown
   refine ⟨none, 0, w', ?_, ⟨elen, ?_, hlt⟩, hgr, fun q hq => by simp [blkOf] at hq⟩
   . rw [hrun, h0]
   . rw [h0] at hown ⊢; exact hown
 . rw [h1] at hrun hown hn
   exact ⟨_, cap', w', hrun, ⟨elen, hown, hlt⟩, hgr, fun q hq => hn q (by rw [ownBlock_slice]; exact hq)⟩
theorem app_byte {w : World} {B : Nat} {a : Option Addr} {n c : Nat} {L : List Nat} {x : Nat} (ho : Own w B a n c L) (hx : x < 256) (hb : n + 1 <= 140737488352256) (hB : B <= w.heap.size) :
  ∃ a' c' w', (Builtin.append_ #[27, 27] 27 #[.slice a n c,.slice (some ⟨w.heap.size, 0, none⟩) 1 1]).run Tryd.prog (w.alloc (.cells #[.int .u8 (x : Int)] 5)) = .ok (.slice a' (n + 1) c') w' /\ Own w' B a' (n + 1) c' (L ++ [x]) /\ w.grownBy w' (blkOf a) /\ New w a a' := by
 have b1 : Blk (w.alloc (.cells #[.int .u8 (x : Int)] 5)) w.heap.size [x] := by
  show (w.heap.push _)[w.heap.size]? = _
  simp [bv]
 have g0 := World.grownBy_alloc w (.cells #[.int .u8 (x : Int)] 5) (blkOf a)
 have ho1 : Own (w.alloc (.cells #[.int .u8 (x : Int)] 5)) B a n c L := ⟨ho.len, ho.own.alloc _, ho.lt⟩
 obtain ⟨a', c', w', h1, h2, h3, h4⟩ := app_any (c2 := 1) ho1 (b1.sln (by simp; omega) (by simp)) (by simp) hb (by simp; omega)
 refine ⟨a', c', w', h1, h2, ⟨h3.os.trans g0.os, h3.tape.trans g0.tape, h3.output.trans g0.output, Nat.le_trans g0.size h3.size, fun k hk hne => (h3.block k (Nat.lt_of_lt_of_le hk g0.size) hne).trans (g0.block k hk hne)⟩, fun q hq => ?_⟩
 rcases h4 q hq with h | h
 . exact .inl h
 . exact .inr (by simp at h; omega)
theorem New.trans {w w1 : World} {a a1 a2 : Option Addr} (h : New w a a1) (h1 : New w1 a1 a2) (hs : w.heap.size <= w1.heap.size) : New w a a2 := by
 intro q hq
 rcases h1 q hq with h2 | h2
 . exact h q h2
 . exact .inr (by omega)
theorem grown_trans {w w1 w2 : World} {a a1 : Option Addr} (h : w.grownBy w1 (blkOf a)) (h1 : w1.grownBy w2 (blkOf a1)) (hn : New w a a1) : w.grownBy w2 (blkOf a) :=
 ⟨h1.os.trans h.os, h1.tape.trans h.tape, h1.output.trans h.output, Nat.le_trans h.size h1.size, fun k hk hne => (h1.block k (Nat.lt_of_lt_of_le hk h.size) (fun e => by
  rcases hn k e.symm with h2 | h2
  . exact hne h2.symm
  . omega)).trans (h.block k hk hne)⟩
theorem ofInt_i64 (a : Nat) (ha : a < 9223372036854775808) : (BitVec.ofInt 64 (a : Int)).toNat = a := by
 rw [BitVec.toNat_ofInt]
 omega
theorem i64_and_nat (a b : Nat) (ha : a < 9223372036854775808) (hb : b < 9223372036854775808) : bits .and .i64 (a : Int) (b : Int) = ((a &&& b : Nat) : Int) := by
 have h : a &&& b <= a := Nat.and_le_left
 show IntKind.i64.wrap ((BitVec.ofInt 64 (a : Int) &&& BitVec.ofInt 64 (b : Int)).toNat : Int) = _
 rw [BitVec.toNat_and, ofInt_i64 a ha, ofInt_i64 b hb, IntKind.wrap_i64]
 omega
theorem and127 (n : Nat) : n &&& 127 = n % 128 := Nat.and_two_pow_sub_one_eq_mod n 7
theorem i64_and127 (a : Nat) (ha : a < 9223372036854775808) : bits .and .i64 (a : Int) 127 = ((a % 128 : Nat) : Int) := by
 have := i64_and_nat a 127 ha (by omega)
 rw [and127] at this
 exact this
theorem u8_or128 (a : Nat) (ha : a < 128) : bits .or .u8 (a : Int) 128 = ((a + 128 : Nat) : Int) := by
 have := u8_or_nat a 128 (by omega) (by omega)
 have e : 128 ||| a = 128 + a := nat_join 7 128 a (by rfl) (by omega)
 rw [Nat.or_comm, e, Nat.add_comm] at this
 exact this
structure Ap (w wr : World) (B : Nat) (a0 a : Option Addr) (n c : Nat) (P : List Nat) : Prop where
 own : Own wr B a n c P
 gr : w.grownBy wr (blkOf a0)
 new : New w a0 a
theorem Ap.byte {w wr : World} {B : Nat} {a0 a : Option Addr} {n c : Nat} {P : List Nat} {x : Nat} (h : Ap w wr B a0 a n c P) (hx : x < 256) (hb : n + 1 <= 140737488352256) (hB : B <= w.heap.size) :
  ∃ a' c' w', (Builtin.append_ #[27, 27] 27 #[.slice a n c,.slice (some ⟨wr.heap.size, 0, none⟩) 1 1]).run Tryd.prog (wr.alloc (.cells #[.int .u8 (x : Int)] 5)) = .ok (.slice a' (n + 1) c') w' /\ Ap w w' B a0 a' (n + 1) c' (P ++ [x]) := by
 obtain ⟨a', c', w', h1, h2, h3, h4⟩ := app_byte h.own hx hb (Nat.le_trans hB h.gr.size)
 exact ⟨a', c', w', h1, h2, grown_trans h.gr h3 h.new, h.new.trans h4 h.gr.size⟩
set_option maxHeartbeats 1000000 in
theorem appendNumber_n {w : World} {B : Nat} {a : Option Addr} {n c N : Nat} {L : List Nat} (hO : Hid (Own w B a n c L)) (hN : Hid (N < 9223372036854775808)) (hB : Hid (B <= w.heap.size)) (hb : Hid (n + 9 <= 140737488352256)) :
  Calls Tryd.prog 55 #[.slice a n c,.int .i64 (N : Int)] w fun e w' => ∃ a' n' c', e = .returned (.slice a' n' c') /\ Hid (Ap w w' B a a' n' c' (L ++ enc N)) := by
 obtain ⟨T, HT⟩ : ∃ T, Hid (T = L ++ enc N) := ⟨_, rfl⟩
 have TL : Hid (T.length <= 140737488352256) := by
  have h1 := enc_nine hN.out
  have h2 := hO.out.len
  have h3 := hb.out
  rw [HT.out, Hid, List.length_append]
  omega
 have A0 : Hid (Ap w w B a a n c L /\ L ++ enc N = T) := ⟨⟨hO.out, World.grownBy.refl _ _, fun q hq => .inl hq⟩, HT.out.symm⟩
 rw [<- HT.out]
 have hN2 := hN.out
 clear HT hO hb
 go_enter Tryd.func55, Tryd.ntmps55
 go_wp2
 go_loopw [0, 1] (fun tv tn wr => ∃ (a1 : Option Addr) (n1 c1 m : Nat) (P : List Nat), tv = .slice a1 n1 c1 /\ tn = .int .i64 m /\ m < 9223372036854775808 /\ Hid (Ap w wr B a a1 n1 c1 P /\ P ++ enc m = T)) (fun _ tn _ => (intOf tn).toNat)
 case atStart => exact ⟨a, n, c, N, L, rfl, rfl, hN2, A0.out⟩
 case round =>
  obtain ⟨a1, n1, c1, m, P, rfl, rfl, hm, H1⟩ := hrel
  have hn1 : n1 + 1 <= 140737488352256 := by
   have h1 := H1.out.1.own.len
   have h2 := congrArg List.length H1.out.2
   have h3 := TL.out
   have h4 := enc_pos m
   rw [List.length_append] at h2
   omega
  by_cases hlt : m < 128
  . obtain ⟨a2, c2, w2, hrun, h2⟩ := H1.out.1.byte (x := m) (by omega) hn1 hB.out
    have AP : Hid ((Builtin.append_ #[27, 27] 27 #[.slice a1 n1 c1,.slice (some ⟨wr.heap.size, 0, none⟩) 1 1]).run Tryd.prog (wr.alloc (.cells #[.int .u8 (m : Int)] 5)) = .ok (.slice a2 (n1 + 1) c2) w2) := hrun
    have F : Hid (Ap w w2 B a a2 (n1 + 1) c2 T) := by
     have e := H1.out.2
     rw [enc_lt hlt] at e
     rw [<- e]
     exact h2
    have i1 : ¬ (127 < (m : Int)) := by omega
    clear hrun h2 H1
    go_wp2_with (at_builtin; refine wpList_app (by rfl) (.tmp 16) (.tmp 19) (by rfl) (by rfl) (by rfl) (by rfl) AP ?_)
    go_ret
    exact ⟨a2, n1 + 1, c2, rfl, F.out⟩
  . obtain ⟨y, Hy⟩ := nm (m % 128)
    have hy : y < 128 := by rw [<- Hy.out]; omega
    obtain ⟨x, Hx⟩ : ∃ x, Hid (x = y + 128) := ⟨_, rfl⟩
    have hx : x < 256 := by rw [Hx.out]; omega
    have e1 : bits .and .i64 (m : Int) 127 = (y : Int) := by rw [i64_and127 m hm, Hy.out]
    have e2 : bits .or .u8 (y : Int) 128 = (x : Int) := by rw [u8_or128 y hy, Hx.out]
    obtain ⟨a2, c2, w2, hrun, h2⟩ := H1.out.1.byte (x := x) hx hn1 hB.out
    have AP : Hid ((Builtin.append_ #[27, 27] 27 #[.slice a1 n1 c1,.slice (some ⟨wr.heap.size, 0, none⟩) 1 1]).run Tryd.prog (wr.alloc (.cells #[.int .u8 (x : Int)] 5)) = .ok (.slice a2 (n1 + 1) c2) w2) := hrun
    have F : Hid (Ap w w2 B a a2 (n1 + 1) c2 (P ++ [x]) /\ P ++ [x] ++ enc (m / 128) = T) := by
     refine ⟨h2, ?_⟩
     have e := H1.out.2
     rw [enc_ge (by omega), Hy.out] at e
     rw [<- e, Hx.out]
     simp
    have i1 : 127 < (m : Int) := by omega
    clear hrun h2 H1
    go_wp2_with (at_builtin; refine wpList_app (by rfl) (.tmp 7) (.tmp 12) (by rfl) (by rfl) (by rfl) (by rfl) AP ?_)
    go_roundw
    case rel => exact ⟨a2, n1 + 1, c2, m / 128, P ++ [x], rfl, by go_num, by omega, F.out⟩
    case measure => simp [intOf]; omega
end Go.Proofs.YtppibcambhmomaaDoor
