/- What Parse comes to; its calls into the library. -/
import Derived.Test.YtemhhlongfabmaaGreatDoorHi
namespace Go.Proofs.YtemhhlongfabmaaGreatDoor
open Go.ChangeShapes Go.WideShapes Go.ChangeAt Go.RowKit
set_option maxRecDepth 20000
set_option linter.unusedVariables false
set_option linter.unusedSimpArgs false
theorem slice_mid {w : World} {a : Option Addr} {n m lo hi : Nat} {l : List Nat} (h : Sln w a n l) (h1 : lo ≤ hi) (h2 : hi ≤ n) (h3 : hi ≤ m) : Sln w (if m = lo then a else a.map (·.add lo)) (hi - lo) ((l.drop lo).take (hi - lo)) := by
  have e := h.len
  refine ⟨by simp; omega, fun x hx => h.lt x (List.mem_of_mem_drop (List.mem_of_mem_take hx)), by have := h.sli.2.1; simp; omega, ?_⟩
  by_cases h0 : hi = lo
  · exact .inl (by rw [h0]; simp)
  · right
    have hl0 : l ≠ [] := by intro hh; rw [hh] at e; simp at e; omega
    obtain ⟨b, off, rfl, hl, hr⟩ := h.sli.2.2.resolve_left hl0
    rw [if_neg (by omega)]
    refine ⟨b, off + lo, by simp [Addr.add], hl, fun i hi' => ?_⟩
    have hi2 : i < hi - lo := by simp at hi'; omega
    have h2 := hr (lo + i) (by omega)
    have h3 : ((l.drop lo).take (hi - lo)).getD i 0 = l.getD (lo + i) 0 := by simp [List.getD, hi2]
    rw [h3, Nat.add_assoc]
    exact h2
theorem slice_to {w : World} {a : Option Addr} {n lo : Nat} {l : List Nat} (h : Sln w a n l) (h1 : lo ≤ n) : Sln w a lo (l.take lo) := by
  have e := h.len
  refine ⟨by simp; omega, fun x hx => h.lt x (List.mem_of_mem_take hx), by have := h.sli.2.1; simp; omega, ?_⟩
  by_cases h0 : l = []
  · exact .inl (by rw [h0]; simp)
  · right
    obtain ⟨b, off, rfl, hl, hr⟩ := h.sli.2.2.resolve_left h0
    refine ⟨b, off, rfl, hl, fun i hi' => ?_⟩
    have hi2 : i < lo := by simp at hi'; omega
    have h2 := hr i (by omega)
    have h3 : (l.take lo).getD i 0 = l.getD i 0 := by simp [List.getD, hi2]
    rw [h3]
    exact h2
def adr (a : Option Addr) (c lo : Nat) : Option Addr := if c = lo then a else a.map (·.add lo)
theorem mid_run {a : Option Addr} {n c lo hi : Nat} (h1 : lo ≤ hi) (h2 : hi ≤ c) (w : World) : (Instr.sliceAt 22 (.slice a n c) (some (.int .i64 (lo : Nat))) (some (.int .i64 (hi : Nat))) none).run Tryz.prog w = .ok (.slice (adr a c lo) (hi - lo) (c - lo)) w := by
  have el : Tryz.prog.elem 22 = 5 := by kernel_rfl
  have hu : Tryz.prog.underlying 22 = some (.slice (Tryz.prog.elem 22)) := by rw [el]; exact Tryz.underlying22
  rw [run_sliceAt_slice w 22 _ _ _ _ hu, run_slice_lh w 22 a n c hu .i64 .i64 lo hi (by omega) (by omega) (by omega), el, Tryz.sizeOf5]
  simp only [Result.andThen_ok, sliced, adr, Int.toNat_natCast, Nat.mul_one]
def toI (l : List Nat) : List Int := l.map fun x : Nat => (x : Int)
theorem toI_bytes (l : List Nat) : Lib.bytesOf (toI l) = l.map UInt8.ofNat := by
  simp [Lib.bytesOf, toI, Function.comp_def]
theorem toI_range {l : List Nat} (h : ∀ x ∈ l, x < 256) : ∀ x ∈ toI l, 0 ≤ x ∧ x < 256 := by
  intro x hx
  obtain ⟨y, hy, rfl⟩ := List.mem_map.1 hx
  have := h y hy
  exact ⟨by omega, by omega⟩
theorem toI_getD (l : List Nat) (i : Nat) : (toI l).getD i 0 = ((l.getD i 0 : Nat) : Int) := by
  simp only [toI, List.getD, List.getElem?_map]
  cases l[i]? <;> rfl
theorem add_mid' (b o i : Nat) : (⟨b, o, none⟩ : Addr).add i = ⟨b, o + i, none⟩ := by unfold Addr.add; split <;> simp_all
/- where the head ends -/
def hEnd : List Nat := [13, 10, 13, 10]
def ixH (l : List Nat) : Int := Lib.index (l.map UInt8.ofNat) [13, 10, 13, 10]
theorem index_n {a : Option Addr} {n c p : Nat} {l : List Nat} {w : World} (hS : Hid (Sln w a n l)) (hc : Hid (a = none → c = 0)) (hnc : n ≤ c) (hn : n < 4294967281) (hB : Hid (Row w p 0 hEnd)) (hm : Hid (Mx w)) :
    Calls Tryz.prog 27 #[.slice a n c, .slice (some ⟨p, 0, none⟩) 4 4] w fun e w' => e = .returned (.int .i64 (ixH l)) ∧ Hid (Below w.heap.size w w') := by
  have hl := hS.out.len
  cases a with
  | none =>
    have c0 := hc.out rfl
    subst c0
    have n0 : n = 0 := by omega
    subst n0
    have l0 : l = [] := List.eq_nil_of_length_eq_zero hl.symm
    subst l0
    refine (Tryz.bytes_Index_nil (some ⟨p, 0, none⟩) 4 4 w (by decide) (fun h => absurd h (by decide))).mono ?_
    rintro e w' ⟨h1, h2⟩
    refine ⟨h1, ?_⟩
    rw [h2]
    exact Below.refl _ _
  | some ad =>
    obtain ⟨m, hm⟩ := hm.out
    have hb := hB.out
    have hp : ∀ i, i < 4 → w.cell? ((⟨p, 0, none⟩ : Addr).add i) = some (.int .u8 ((toI hEnd).getD i 0)) := fun i hi => by
      rw [add_mid', toI_getD]
      exact hb i (by simpa [hEnd] using hi)
    have hx : (toI l).length = n := by simp [toI]; omega
    have ha : ∀ i, i < n → w.cell? (ad.add i) = some (.int .u8 ((toI l).getD i 0)) := fun i hi => by
      obtain ⟨b, off, e, _, r⟩ := hS.out.sli.2.2.resolve_left (fun h => by rw [h] at hl; simp at hl; omega)
      cases e
      rw [add_mid', toI_getD]
      exact r i (by omega)
    refine (Tryz.bytes_Index_at ad ⟨p, 0, none⟩ n c 4 4 (toI l) (toI hEnd) m w hx rfl (toI_range hS.out.lt) (toI_range (by decide)) ha hp hnc hn (by decide) hm).mono ?_
    rintro e w' ⟨h1, q, h2⟩
    rw [toI_bytes, toI_bytes] at h1
    refine ⟨h1, ?_⟩
    rw [h2]
    exact below_drewN (Below.refl _ _) q
theorem bclone_n {a : Option Addr} {n c : Nat} {l : List Nat} {w : World} (hS : Hid (Sln w a n l)) :
    Calls Tryz.prog 29 #[.slice a n c] w fun e w' => ∃ a' c', e = .returned (.slice a' n c') ∧ Hid (Own w' w.heap.size a' n c' l ∧ Below w.heap.size w w') := by
  have hl := hS.out.len
  cases a with
  | none =>
    have l0 : l = [] := by
      rcases hS.out.sli.2.2 with h | ⟨b, off, e, _⟩
      · exact h
      · cases e
    subst l0
    have n0 : n = 0 := hl
    subst n0
    refine (Tryz.bytes_Clone_nil 0 c w).mono ?_
    rintro e w' ⟨h1, h2⟩
    subst h2
    exact ⟨none, 0, h1, Own.nil _ _, Below.refl _ _⟩
  | some ad =>
    have hx : (toI l).length = n := by simp [toI]; omega
    have ha : ∀ i, i < n → w.cell? (ad.add i) = some (.int .u8 ((toI l).getD i 0)) := fun i hi => by
      obtain ⟨b, off, e, _, r⟩ := hS.out.sli.2.2.resolve_left (fun h => by rw [h] at hl; simp at hl; omega)
      cases e
      rw [add_mid', toI_getD]
      exact r i (by omega)
    refine (Tryz.bytes_Clone_at ad n c (toI l) w hx (by have := hS.out.sli.2.1; omega) ha).mono ?_
    rintro e w' ⟨v', h1, h2, _, h4⟩
    obtain ⟨a', c', rfl⟩ := rown_slice h2
    have e9 : (toI l).map (Value.int .u8) = l.map bv := by simp [toI, bv, Function.comp_def]
    rw [e9] at h2
    exact ⟨a', c', h1, ⟨hl, h2, hS.out.lt⟩, h4⟩
theorem bszO_le {o : Option ByteArray} {z : Nat} (h : bszO o = (z, none)) : z ≤ 1024 := by
  cases o with
  | none => simp [bszO] at h; omega
  | some t =>
    unfold bszO at h
    dsimp only at h
    split at h
    · split at h
      · simp at h
      · simp at h; omega
    · simp at h
theorem bsz_le {l : List Fl} {z : Nat} (h : bsz l = (z, none)) : z ≤ 1024 := by
  unfold bsz at h
  split at h
  · simp at h
  · split at h
    · simp at h
    · exact bszO_le h
theorem rdH_le {s m t : ByteArray} {fs : List Fl} {z : Nat} (h : rdH s = .ok m t fs z) : z ≤ 1024 := by
  unfold rdH at h
  generalize rdF ((lns s).headD ⟨#[]⟩) = o at h
  cases o with
  | none => cases h
  | some mt =>
    obtain ⟨m', t'⟩ := mt
    simp only [rdH1] at h
    generalize flds (lns s).tail = f at h
    cases f with
    | none => cases h
    | some fs' =>
      simp only [rdH2] at h
      split at h
      · cases h
      · generalize hb : bsz fs' = b at h
        obtain ⟨z', o'⟩ := b
        cases o' with
        | none =>
          simp only [HR.ok.injEq] at h
          obtain ⟨_, _, _, rfl⟩ := h
          exact bsz_le hb
        | some g => cases h
/- what Parse comes to -/
inductive PR where
  | bad (g : Nat)
  | wait
  | got (m t : ByteArray) (fs : List Fl) (body : List Nat) (num : Nat)
def prs2 (l : List Nat) (e : Nat) : HR → PR
  | .bad g => .bad g
  | .ok m t fs z => if l.length - (e + 4) < z then .wait else .got m t fs ((l.drop (e + 4)).take z) (e + 4 + z)
def prs (l : List Nat) : PR :=
  if ixH (l.take 2048) < 0 then (if 2048 ≤ l.length then .bad 0 else .wait) else prs2 l (ixH (l.take 2048)).toNat (rdH (spell (l.take (ixH (l.take 2048)).toNat)))
def ParseEnd (w w' : World) (E : Nat → Addr) : PR → Ending → Prop
  | .bad g, e => e = .returned (.tuple #[.agg (aggR ⟨#[]⟩ ⟨#[]⟩ nilS nilS), .int .i64 0, er (E g)])
  | .wait, e => e = .returned (.tuple #[.agg (aggR ⟨#[]⟩ ⟨#[]⟩ nilS nilS), .int .i64 0, .nilIface])
  | .got m t fs body num, e => ∃ a n c b k d, e = .returned (.tuple #[.agg (aggR m t (.slice a n c) (.slice b k d)), .int .i64 (num : Nat), .nilIface]) ∧ Rw w' w.heap.size 41 EF a n c fs ∧ Own w' w.heap.size b k d body
theorem ix_room {l : List Nat} (h : ¬ (ixH l < 0)) : (ixH l).toNat + 4 ≤ l.length := by
  have := Lib.index_room (l.map UInt8.ofNat) [13, 10, 13, 10] (by unfold ixH at h; omega)
  unfold ixH at h ⊢
  simp only [List.length_map, List.length_cons, List.length_nil] at this
  omega
end Go.Proofs.YtemhhlongfabmaaGreatDoor
