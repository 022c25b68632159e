/- A request that is read as it was written is read whole: plain facts. -/
import Derived.Test.YtemhhlongfabmaaGreatDoorIk
import Derived.Test.YtemhhlongfabmaaGreatDoorIf
import Derived.Test.YtemhhlongfabmaaGreatDoorIj
import Derived.Test.YtemhhlongfabmaaGreatDoorHt
namespace Go.Proofs.YtemhhlongfabmaaGreatDoor
open Go.ChangeShapes Go.WideShapes Go.ChangeAt Go.RowKit
set_option maxRecDepth 20000
set_option linter.unusedVariables false
set_option linter.unusedSimpArgs false
def jn (ls : List (List Nat)) : List Nat := ls.flatMap fun l => l ++ [13, 10]
theorem jn_cons (l : List Nat) (ls : List (List Nat)) : jn (l :: ls) = (l ++ [13, 10]) ++ jn ls := rfl
theorem crlf_at : ∀ (ls : List (List Nat)), ls ≠ [] → (∀ l ∈ ls, l ≠ [] ∧ ∀ x ∈ l, x ≠ 13) → ∀ (r : List Nat) (j : Nat),
    (jn ls ++ ([13, 10] ++ r))[j]? = some 13 → (jn ls ++ ([13, 10] ++ r))[j + 1]? = some 10 → (jn ls ++ ([13, 10] ++ r))[j + 2]? = some 13 → (jn ls).length ≤ j + 2
  | [], h, _, _, _, _, _, _ => absurd rfl h
  | l :: t, _, hl, r, j, h0, h1, h2 => by
    obtain ⟨hne, h13⟩ := hl l (by simp)
    have eS : jn (l :: t) ++ ([13, 10] ++ r) = (l ++ [13, 10]) ++ (jn t ++ ([13, 10] ++ r)) := by rw [jn_cons, List.append_assoc]
    have eL : (jn (l :: t)).length = l.length + 2 + (jn t).length := by rw [jn_cons]; simp; omega
    rw [eS] at h0 h1 h2
    rw [eL]
    have lz : (l ++ [13, 10]).length = l.length + 2 := by simp
    by_cases c1 : j < l.length
    · rw [List.getElem?_append_left (by omega), List.getElem?_append_left c1] at h0
      exact absurd rfl (h13 13 (List.mem_of_getElem? h0))
    · by_cases c2 : j = l.length
      · subst c2
        cases t with
        | nil => simp [jn]
        | cons l' t' =>
          obtain ⟨hne', h13'⟩ := hl l' (by simp)
          rw [List.getElem?_append_right (by omega), lz, Nat.sub_self, jn_cons] at h2
          have : 0 < l'.length := List.length_pos_iff.2 hne'
          rw [List.append_assoc, List.append_assoc, List.getElem?_append_left this] at h2
          exact absurd rfl (h13' 13 (List.mem_of_getElem? h2))
      · by_cases c3 : j = l.length + 1
        · subst c3
          rw [List.getElem?_append_left (by omega), List.getElem?_append_right (by omega)] at h0
          simp at h0
        · cases t with
          | nil => simp [jn]; omega
          | cons l' t' =>
            rw [List.getElem?_append_right (by omega), lz] at h0 h1 h2
            have := crlf_at (l' :: t') (by simp) (fun x hx => hl x (by simp [hx])) r (j - (l.length + 2)) h0
              (by rw [show j - (l.length + 2) + 1 = j + 1 - (l.length + 2) by omega]; exact h1) (by rw [show j - (l.length + 2) + 2 = j + 2 - (l.length + 2) by omega]; exact h2)
            omega
/- the lines of a request -/
def ln0 (m t : ByteArray) : List Nat := bo m ++ ([32] ++ (bo t ++ [32, 72, 84, 84, 80, 47, 49, 46, 49]))
def lnF (f : Fl) : List Nat := bo f.1 ++ ([58, 32] ++ bo f.2)
theorem bo_lnS (f : Fl) : bo (lnS f) = lnF f ++ [13, 10] := by
  unfold lnS lnF
  rw [bo_app, bo_app, bo_app]
  simp [bo]
theorem rqL_jn (m t : ByteArray) (fs : List Fl) (body : List Nat) : rqL m t fs body = jn (ln0 m t :: fs.map lnF) ++ ([13, 10] ++ body) := by
  have e1 : bo (rqH m t) = ln0 m t ++ [13, 10] := by
    unfold rqH ln0
    rw [bo_app, bo_app, bo_app]
    simp [bo]
  have e2 : lnsB fs = jn (fs.map lnF) := by
    unfold lnsB jn
    rw [List.flatMap_map]
    exact congrArg (fun g => List.flatMap g fs) (funext fun f => bo_lnS f)
  unfold rqL
  rw [e1, e2, jn_cons]
  simp [List.append_assoc]
theorem bo_mem {s : ByteArray} {x : Nat} (h : x ∈ bo s) : ∃ b ∈ s.data.toList, b.toNat = x := List.mem_map.1 h
theorem rdF_13 {s m t : ByteArray} (h : rdF s = some (m, t)) : ∀ x ∈ ln0 m t, x ≠ 13 := fun x hx => by
  obtain ⟨_, hm, ht⟩ := rdF_iff.1 h
  have h1 := sb_mem (gdM_ev hm).2.2
  have h2 := sb_mem (gdT_ev ht).2
  unfold ln0 at hx
  simp only [List.mem_append, List.mem_cons, List.not_mem_nil, or_false] at hx
  rcases hx with hx | hx | hx | hx
  · obtain ⟨b, hb, rfl⟩ := bo_mem hx
    have := of_decide_eq_true (h1 b hb)
    omega
  · omega
  · obtain ⟨b, hb, rfl⟩ := bo_mem hx
    have := of_decide_eq_true (h2 b hb)
    omega
  · omega
theorem nm_lw {x : Nat} (h : nmB x = true) : lwN x ≠ 13 := by
  unfold nmB grB smB dgB at h
  simp only [Bool.or_eq_true, decide_eq_true_eq] at h
  unfold lwN
  split <;> omega
theorem low_13 {s : ByteArray} (h : gdN s = true) : ∀ x ∈ bo (lowA s), x ≠ 13 := fun x hx => by
  have h1 : evB nmB s s.size = true := by unfold gdN at h; rw [Bool.and_eq_true] at h; exact h.2
  have h2 := sb_mem h1
  obtain ⟨b, hb, rfl⟩ := bo_mem hx
  have hb2 : b ∈ s.data.toList.map Lib.lowerB := hb
  obtain ⟨c, hc, rfl⟩ := List.mem_map.1 hb2
  rw [lwB]
  exact nm_lw (h2 c hc)
theorem tri_13 {s : ByteArray} (h : gdV s = true) : ∀ x ∈ bo (triA s), x ≠ 13 := fun x hx => by
  have h2 := sb_mem (p := vlB) (s := s) h
  obtain ⟨b, hb, rfl⟩ := bo_mem hx
  have hb2 : b ∈ Lib.trimS s.data.toList [32, 9] := hb
  have hb3 : b ∈ s.data.toList := by
    unfold Lib.trimS Lib.trimLeftS Lib.trimRightS at hb2
    have := (List.dropWhile_sublist _).subset hb2
    rw [List.mem_reverse] at this
    have := (List.dropWhile_sublist _).subset this
    rwa [List.mem_reverse] at this
  have := of_decide_eq_true (h2 b hb3)
  omega
theorem rdL_13 {s : ByteArray} {f : Fl} (h : rdL s = some f) : ∀ x ∈ lnF f, x ≠ 13 := fun x hx => by
  unfold rdL at h
  split at h
  · rename_i hc
    simp only [Bool.and_eq_true] at hc
    simp only [Option.some.injEq] at h
    subst h
    unfold lnF at hx
    simp only [List.mem_append, List.mem_cons, List.not_mem_nil, or_false] at hx
    rcases hx with hx | (hx | hx) | hx
    · exact low_13 hc.2.1 x hx
    · omega
    · omega
    · exact tri_13 hc.2.2 x hx
  · cases h
theorem flds_mem : ∀ {l : List ByteArray} {fs : List Fl} {f : Fl}, flds l = some fs → f ∈ fs → ∃ x, rdL x = some f
  | [], fs, f, h, hf => by simp only [flds, Option.some.injEq] at h; subst h; cases hf
  | y :: r, fs, f, h, hf => by
    simp only [flds] at h
    cases hy : rdL y with
    | none => rw [hy] at h; cases h
    | some g =>
      rw [hy] at h
      cases hr : flds r with
      | none => rw [hr] at h; cases h
      | some gs =>
        rw [hr] at h
        simp only [Option.some.injEq] at h
        subst h
        rcases List.mem_cons.1 hf with rfl | hf
        · exact ⟨y, hy⟩
        · exact flds_mem hr hf
theorem rdH_parts {s m t : ByteArray} {fs : List Fl} {z : Nat} (h : rdH s = .ok m t fs z) : (∃ l0, rdF l0 = some (m, t)) ∧ ∀ f ∈ fs, ∃ x, rdL x = some f := by
  unfold rdH at h
  generalize (lns s).headD ⟨#[]⟩ = l0 at h
  cases ho : rdF l0 with
  | none => rw [ho] at h; cases h
  | some mt =>
    obtain ⟨m', t'⟩ := mt
    rw [ho] at h
    simp only [rdH1] at h
    cases hf : flds (lns s).tail with
    | none => rw [hf] at h; cases h
    | some fs' =>
      rw [hf] at h
      simp only [rdH2] at h
      split at h
      · cases h
      · generalize hb : bsz fs' = b at h
        obtain ⟨z', o'⟩ := b
        cases o' with
        | none =>
          simp only [HR.ok.injEq] at h
          obtain ⟨rfl, rfl, rfl, _⟩ := h
          exact ⟨⟨l0, ho⟩, fun f hm => flds_mem hf hm⟩
        | some g => cases h
theorem back_len {m t : ByteArray} {fs : List Fl} {body : List Nat} {num : Nat} (hb : ∀ x ∈ rqL m t fs body, x < 256) (h : prs (rqL m t fs body) = .got m t fs body num) : num = (rqL m t fs body).length := by
  obtain ⟨e, z, hG⟩ := got_of h
  obtain ⟨⟨l0, h0⟩, hf⟩ := rdH_parts hG.hd
  have eB := rqL_jn m t fs body
  obtain ⟨ls, hls⟩ : ∃ ls, ls = ln0 m t :: fs.map lnF := ⟨_, rfl⟩
  rw [← hls] at eB
  have hl : ∀ l ∈ ls, l ≠ [] ∧ ∀ x ∈ l, x ≠ 13 := fun l hm => by
    rw [hls] at hm
    rcases List.mem_cons.1 hm with rfl | hm
    · exact ⟨by unfold ln0; simp, rdF_13 h0⟩
    · obtain ⟨f, hff, rfl⟩ := List.mem_map.1 hm
      obtain ⟨x, hx⟩ := hf f hff
      exact ⟨by unfold lnF; simp, rdL_13 hx⟩
  obtain ⟨i1, i2, _⟩ := ix_hit hG.ix
  rw [occ_iff] at i2
  rw [List.length_take] at i1
  have el : (rqL m t fs body).length = (jn ls).length + 2 + body.length := by rw [eB]; simp; omega
  have bl : body.length = z := by
    have h1 := hG.bd
    have h2 := congrArg List.length h1
    rw [List.length_take, List.length_drop] at h2
    have h3 := hG.le
    have h4 := hG.len
    omega
  have at_ : ∀ k, k < 4 → (rqL m t fs body)[e + k]? = hEnd[k]? := fun k hk => by
    have h1 := congrArg (fun l : List UInt8 => l[k]?) i2
    rw [List.getElem?_take_of_lt hk, List.getElem?_drop, List.getElem?_map, List.getElem?_take_of_lt (by omega)] at h1
    have hlt : e + k < (rqL m t fs body).length := by omega
    rw [List.getElem?_eq_getElem hlt] at h1 ⊢
    have hx := hb _ (List.getElem_mem hlt)
    have hv : ∀ v : Nat, v < 256 → UInt8.ofNat (rqL m t fs body)[e + k] = UInt8.ofNat v → (rqL m t fs body)[e + k] = v := fun v hv e => by
      have := congrArg UInt8.toNat e
      simpa [Nat.mod_eq_of_lt hx, Nat.mod_eq_of_lt hv] using this
    simp only [Option.map_some] at h1
    rcases k with _ | _ | _ | _ | k
    · exact congrArg some (hv 13 (by omega) (Option.some.inj h1))
    · exact congrArg some (hv 10 (by omega) (Option.some.inj h1))
    · exact congrArg some (hv 13 (by omega) (Option.some.inj h1))
    · exact congrArg some (hv 10 (by omega) (Option.some.inj h1))
    · omega
  have c := crlf_at ls (by rw [hls]; simp) hl body e (by rw [← eB]; exact at_ 0 (by omega)) (by rw [← eB]; exact at_ 1 (by omega)) (by rw [← eB]; exact at_ 2 (by omega))
  have h3 := hG.le
  have h4 := hG.len
  omega
end Go.Proofs.YtemhhlongfabmaaGreatDoor
