/- Texts as lists of numbers; decoding and encoding in plain words. -/
import Derived.Test.YtalagagnolhppaaDoorHa
namespace Go.Proofs.YtalagagnolhppaaDoor
open Go.ChangeShapes Go.WideShapes Go.ChangeAt Go.RowKit
set_option maxRecDepth 20000
set_option linter.unusedVariables false
set_option linter.unusedSimpArgs false
def bl (s : ByteArray) : List Nat := s.data.toList.map UInt8.toNat
theorem ba_extD {s t : ByteArray} (h : s.data.toList = t.data.toList) : s = t := ByteArray.ext (Array.toList_inj.1 h)
theorem bl_len (s : ByteArray) : (bl s).length = s.size := by unfold bl; rw [List.length_map, Lib.size_eq]
theorem bl_lt (s : ByteArray) : ∀ x ∈ bl s, x < 256 := fun x hx => by
  obtain ⟨b, _, rfl⟩ := List.mem_map.1 hx
  exact UInt8.toNat_lt b
theorem bl_get (s : ByteArray) (i : Nat) : (bl s).getD i 0 = sb s i := by
  unfold bl sb
  rw [List.getD, List.getD, List.getElem?_map]
  cases s.data.toList[i]? <;> rfl
theorem bl_at {s : ByteArray} {i : Nat} (h : i < (bl s).length) : (bl s)[i] = sb s i := by
  rw [← bl_get, List.getD, List.getElem?_eq_getElem h]
  rfl
theorem spell_bl (s : ByteArray) : spell (bl s) = s := by
  apply ba_extD
  rw [spell_data, bl, List.map_map]
  have e : (UInt8.ofNat ∘ UInt8.toNat) = id := by funext b; simp
  rw [e, List.map_id]
theorem bl_spell {l : List Nat} (h : ∀ x ∈ l, x < 256) : bl (spell l) = l := by
  unfold bl
  rw [spell_data]
  exact ofNat_back h
theorem bl_inj {s t : ByteArray} (h : bl s = bl t) : s = t := by rw [← spell_bl s, h, spell_bl]
theorem ext_list (s : ByteArray) (i j : Nat) : (s.extract i j).data.toList = (s.data.toList.drop i).take (j - i) := by simp [ByteArray.data_extract, Array.toList_extract, List.extract_eq_take_drop]
theorem bl_ext (s : ByteArray) (i j : Nat) : bl (s.extract i j) = ((bl s).drop i).take (j - i) := by
  unfold bl
  rw [ext_list, List.map_take, List.map_drop]
theorem bl_tail (s : ByteArray) (i : Nat) : bl (s.extract i s.size) = (bl s).drop i := by
  rw [bl_ext, List.take_of_length_le]
  rw [List.length_drop, bl_len]
  exact Nat.le_refl _
theorem bl_nil {s : ByteArray} : bl s = [] ↔ s.size = 0 := by
  rw [← bl_len, List.length_eq_zero_iff]
theorem bl_cons {s : ByteArray} {i : Nat} (h : i < s.size) : (bl s).drop i = sb s i :: (bl s).drop (i + 1) := by
  have h2 : i < (bl s).length := by rw [bl_len]; exact h
  rw [List.drop_eq_getElem_cons h2, bl_at h2]
/- digits of base 16 -/
def hx (c : Nat) : Option Nat := if 48 ≤ c ∧ c ≤ 57 then some (c - 48) else if 97 ≤ c ∧ c ≤ 102 then some (c - 87) else if 65 ≤ c ∧ c ≤ 70 then some (c - 55) else none
theorem hx_lt {c v : Nat} (h : hx c = some v) : v < 16 := by
  unfold hx at h
  split at h
  · cases h; omega
  · split at h
    · cases h; omega
    · split at h
      · cases h; omega
      · cases h
/- two digits -/
def wr2 : List Nat → Option Nat
  | a :: b :: _ => match hx a, hx b with
    | some h, some l => some (16 * h + l)
    | _, _ => none
  | _ => none
theorem wr2_lt {l : List Nat} {v : Nat} (h : wr2 l = some v) : v < 256 := by
  match l, h with
  | a :: b :: _, h =>
    simp only [wr2] at h
    cases ha : hx a with
    | none => rw [ha] at h; cases h
    | some x =>
      cases hb : hx b with
      | none => rw [ha, hb] at h; cases h
      | some y =>
        rw [ha, hb] at h
        cases h
        have := hx_lt ha
        have := hx_lt hb
        omega
/- the first byte that is meant, and what is behind it -/
def dst : List Nat → Option (Nat × List Nat)
  | [] => none
  | c :: r => if c = 37 then (match wr2 r with | none => none | some v => some (v, r.drop 2)) else some (c, r)
def okC (v : Nat) : Bool := decide (32 ≤ v ∧ v ≤ 126)
def dcF : Nat → List Nat → Option (List Nat)
  | 0, _ => some []
  | _ + 1, [] => some []
  | n + 1, c :: r => match dst (c :: r) with
    | none => none
    | some (v, r') => if okC v then (dcF n r').map (v :: ·) else none
def dc (l : List Nat) : Option (List Nat) := dcF l.length l
theorem dst_len {c : Nat} {r : List Nat} {v : Nat} {r' : List Nat} (h : dst (c :: r) = some (v, r')) : r'.length ≤ r.length := by
  rw [dst] at h
  split at h
  · cases hw : wr2 r with
    | none => rw [hw] at h; cases h
    | some x => rw [hw] at h; cases h; rw [List.length_drop]; omega
  · cases h; exact Nat.le_refl _
theorem dcF_more : ∀ (n m : Nat) (l : List Nat), l.length ≤ n → l.length ≤ m → dcF n l = dcF m l
  | 0, m, l, h, _ => by
    obtain rfl := List.eq_nil_of_length_eq_zero (Nat.le_zero.1 h)
    cases m <;> rfl
  | n + 1, 0, l, _, h => by
    obtain rfl := List.eq_nil_of_length_eq_zero (Nat.le_zero.1 h)
    rfl
  | n + 1, m + 1, [], _, _ => rfl
  | n + 1, m + 1, c :: r, h, h2 => by
    rw [dcF, dcF]
    cases hd : dst (c :: r) with
    | none => rfl
    | some vr =>
      obtain ⟨v, r'⟩ := vr
      have := dst_len hd
      simp only [List.length_cons] at h h2
      dsimp only
      rw [dcF_more n m r' (by omega) (by omega)]
theorem dc_nil : dc [] = some [] := rfl
theorem dc_none {c : Nat} {r : List Nat} (h : dst (c :: r) = none) : dc (c :: r) = none := by
  unfold dc
  rw [List.length_cons, dcF, h]
theorem dc_bad {c : Nat} {r : List Nat} {v : Nat} {r' : List Nat} (h : dst (c :: r) = some (v, r')) (hv : okC v = false) : dc (c :: r) = none := by
  unfold dc
  rw [List.length_cons, dcF, h]
  simp [hv]
theorem dc_ok {c : Nat} {r : List Nat} {v : Nat} {r' : List Nat} (h : dst (c :: r) = some (v, r')) (hv : okC v = true) : dc (c :: r) = (dc r').map (v :: ·) := by
  have := dst_len h
  unfold dc
  rw [List.length_cons, dcF, h]
  simp only [hv, if_true]
  rw [dcF_more r.length r'.length r' (by omega) (Nat.le_refl _)]
theorem dc_lt : ∀ (n : Nat) (l o : List Nat), l.length ≤ n → dc l = some o → (∀ x ∈ o, 32 ≤ x ∧ x ≤ 126) ∧ o.length ≤ l.length
  | _, [], o, _, h => by cases h; exact ⟨(fun x hx => by cases hx), Nat.le_refl _⟩
  | 0, c :: r, o, hn, h => absurd hn (by simp)
  | n + 1, c :: r, o, hn, h => by
    cases hd : dst (c :: r) with
    | none => rw [dc_none hd] at h; cases h
    | some vr =>
      obtain ⟨v, r'⟩ := vr
      cases hv : okC v with
      | false => rw [dc_bad hd hv] at h; cases h
      | true =>
        rw [dc_ok hd hv] at h
        have h1 := dst_len hd
        simp only [List.length_cons] at hn ⊢
        cases ho : dc r' with
        | none => rw [ho] at h; cases h
        | some o' =>
          rw [ho] at h
          cases h
          obtain ⟨h2, h3⟩ := dc_lt n r' o' (by omega) ho
          refine ⟨fun x hx => ?_, by simp only [List.length_cons]; omega⟩
          rcases List.mem_cons.1 hx with rfl | hx
          · exact of_decide_eq_true hv
          · exact h2 x hx
/- a text decoded -/
def dcS (s : ByteArray) : Option ByteArray := (dc (bl s)).map spell
def DecEnd : Option ByteArray → Ending → Prop
  | none, e => e = .returned (.tuple #[.string ⟨#[]⟩, .bool false])
  | some t, e => e = .returned (.tuple #[.string t, .bool true])
theorem dc_size {l o : List Nat} (h : dc l = some o) : o.length ≤ l.length := (dc_lt _ l o (Nat.le_refl _) h).2
theorem dc_256 {l o : List Nat} (h : dc l = some o) : ∀ x ∈ o, x < 256 := fun x hx => by have := (dc_lt _ l o (Nat.le_refl _) h).1 x hx; omega
/- what a loop has so far: what is behind is left -/
def DcI (l : List Nat) (rest out : List Nat) : Prop := dc l = (dc rest).map (out ++ ·)
theorem DcI.zero (l : List Nat) : DcI l l [] := by
  unfold DcI
  cases dc l <;> simp
theorem DcI.step {l out : List Nat} {c : Nat} {r : List Nat} {v : Nat} {r' : List Nat} (h : DcI l (c :: r) out) (hd : dst (c :: r) = some (v, r')) (hv : okC v = true) : DcI l r' (out ++ [v]) := by
  unfold DcI at h ⊢
  rw [h, dc_ok hd hv]
  cases dc r' <;> simp
theorem DcI.none {l out : List Nat} {c : Nat} {r : List Nat} (h : DcI l (c :: r) out) (hd : dst (c :: r) = .none) : dc l = .none := by
  unfold DcI at h
  rw [h, dc_none hd]
  rfl
theorem DcI.bad {l out : List Nat} {c : Nat} {r : List Nat} {v : Nat} {r' : List Nat} (h : DcI l (c :: r) out) (hd : dst (c :: r) = some (v, r')) (hv : okC v = false) : dc l = .none := by
  unfold DcI at h
  rw [h, dc_bad hd hv]
  rfl
theorem DcI.done {l out : List Nat} (h : DcI l [] out) : dc l = some out := by
  unfold DcI at h
  rw [h, dc_nil]
  simp
/- encoding -/
def plB (c : Nat) : Bool := smB c || (grB c || (dgB c || decide (c = 45 ∨ c = 95 ∨ c = 46 ∨ c = 126)))
def asB (slash : Bool) (c : Nat) : Bool := plB c || (slash && decide (c = 47))
def hd (k : Nat) : Nat := if k < 10 then 48 + k else 55 + k
def ec (slash : Bool) (c : Nat) : List Nat := if asB slash c then [c] else [37, hd (c / 16), hd (c % 16)]
def enc (slash : Bool) : List Nat → List Nat
  | [] => []
  | c :: r => ec slash c ++ enc slash r
theorem enc_app (slash : Bool) : ∀ a b : List Nat, enc slash (a ++ b) = enc slash a ++ enc slash b
  | [], b => rfl
  | c :: r, b => by rw [List.cons_append, enc, enc_app slash r b, enc, List.append_assoc]
theorem enc_snoc (slash : Bool) (l : List Nat) (c : Nat) : enc slash (l ++ [c]) = enc slash l ++ ec slash c := by
  rw [enc_app, enc, enc, List.append_nil]
theorem hd_lt {k : Nat} (h : k < 16) : hd k < 256 := by unfold hd; split <;> omega
theorem ec_lt {slash : Bool} {c : Nat} (h : c < 256) : ∀ x ∈ ec slash c, x < 256 := fun x hx => by
  unfold ec at hx
  split at hx
  · rw [List.mem_singleton] at hx; rw [hx]; exact h
  · simp only [List.mem_cons, List.not_mem_nil, or_false] at hx
    rcases hx with rfl | rfl | rfl
    · omega
    · exact hd_lt (by omega)
    · exact hd_lt (by omega)
theorem ec_len (slash : Bool) (c : Nat) : (ec slash c).length ≤ 3 := by unfold ec; split <;> simp
theorem enc_lt {slash : Bool} : ∀ {l : List Nat}, (∀ x ∈ l, x < 256) → ∀ x ∈ enc slash l, x < 256
  | [], _, x, hx => by cases hx
  | c :: r, h, x, hx => by
    rw [enc] at hx
    rcases List.mem_append.1 hx with hx | hx
    · exact ec_lt (h c (by simp)) x hx
    · exact enc_lt (fun y hy => h y (by simp [hy])) x hx
theorem enc_len (slash : Bool) : ∀ l : List Nat, (enc slash l).length ≤ 3 * l.length
  | [] => Nat.le_refl _
  | c :: r => by
    have h1 := enc_len slash r
    have h2 := ec_len slash c
    rw [enc, List.length_append, List.length_cons]
    omega
theorem hx_hd : ∀ k, k < 16 → hx (hd k) = some k := by decide
theorem as_37 (slash : Bool) : asB slash 37 = false := by cases slash <;> rfl
theorem dst_enc (slash : Bool) {c : Nat} (h : c < 256) (r : List Nat) : ∃ x q, ec slash c ++ r = x :: q ∧ dst (x :: q) = some (c, r) := by
  unfold ec
  split
  · rename_i ha
    refine ⟨c, r, rfl, ?_⟩
    rw [dst, if_neg]
    rintro rfl
    rw [as_37] at ha
    cases ha
  · refine ⟨37, hd (c / 16) :: hd (c % 16) :: r, rfl, ?_⟩
    rw [dst, if_pos rfl, wr2, hx_hd _ (by omega), hx_hd _ (by omega)]
    have e : 16 * (c / 16) + c % 16 = c := by omega
    simp [e]
/- what is encoded is decoded to what it was, or not at all -/
theorem dc_enc (slash : Bool) : ∀ {l : List Nat}, (∀ x ∈ l, x < 256) → dc (enc slash l) = if l.all okC then some l else none
  | [], _ => rfl
  | c :: r, h => by
    obtain ⟨x, q, e, hd⟩ := dst_enc slash (h c (by simp)) (enc slash r)
    have ih := dc_enc slash (l := r) (fun y hy => h y (by simp [hy]))
    rw [enc, e]
    cases hc : okC c with
    | false => rw [dc_bad hd hc, List.all_cons, hc]; rfl
    | true =>
      rw [dc_ok hd hc, ih, List.all_cons, hc, Bool.true_and]
      split <;> rfl
def encS (slash : Bool) (s : ByteArray) : ByteArray := spell (enc slash (bl s))
theorem bl_encS (slash : Bool) (s : ByteArray) : bl (encS slash s) = enc slash (bl s) := bl_spell (enc_lt (bl_lt s))
/- a text cut at a byte -/
def ixB (c : Nat) (s : ByteArray) : Nat := (bl s).findIdx (· == c)
def ctA (c : Nat) (s : ByteArray) : ByteArray := s.extract 0 (ixB c s)
def ctB (c : Nat) (s : ByteArray) : ByteArray := s.extract (ixB c s + 1) s.size
theorem ixB_le (c : Nat) (s : ByteArray) : ixB c s ≤ s.size := by unfold ixB; rw [← bl_len]; exact List.findIdx_le_length
theorem ctA_size (c : Nat) (s : ByteArray) : (ctA c s).size ≤ s.size := by unfold ctA; rw [ByteArray.size_extract]; omega
theorem ctB_size (c : Nat) (s : ByteArray) : (ctB c s).size ≤ s.size := by unfold ctB; rw [ByteArray.size_extract]; omega
theorem ctB_lt (c : Nat) {s : ByteArray} (h : 0 < s.size) : (ctB c s).size < s.size := by unfold ctB; rw [ByteArray.size_extract]; omega
theorem ixB_at {c : Nat} {s : ByteArray} {i : Nat} (h : i < s.size) (hc : sb s i = c) (hn : ∀ j, j < i → sb s j ≠ c) : ixB c s = i := by
  unfold ixB
  have h2 : i < (bl s).length := by rw [bl_len]; exact h
  refine (List.findIdx_eq h2).2 ⟨?_, fun j hj => ?_⟩
  · rw [bl_at, hc]; simp
  · rw [bl_at]
    have := hn j hj
    simpa using this
theorem ixB_none {c : Nat} {s : ByteArray} (hn : ∀ j, j < s.size → sb s j ≠ c) : ixB c s = s.size := by
  unfold ixB
  rw [← bl_len]
  refine List.findIdx_eq_length.2 fun x hx => ?_
  obtain ⟨j, hj, rfl⟩ := List.getElem_of_mem hx
  rw [bl_at]
  have := hn j (by rw [← bl_len]; exact hj)
  simpa using this
theorem ctA_none {c : Nat} {s : ByteArray} (h : ixB c s = s.size) : ctA c s = s := by
  unfold ctA
  rw [h]
  exact bl_inj (by rw [bl_ext, List.drop_zero, Nat.sub_zero, List.take_of_length_le (by rw [bl_len]; exact Nat.le_refl _)])
theorem ctB_none {c : Nat} {s : ByteArray} (h : ixB c s = s.size) : ctB c s = ⟨#[]⟩ := by
  unfold ctB
  rw [h]
  refine bl_inj ?_
  rw [bl_ext, List.drop_of_length_le (by rw [bl_len]; omega), List.take_nil]
  rfl
end Go.Proofs.YtalagagnolhppaaDoor
