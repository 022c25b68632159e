import Derived.Test.YtfabnnbljkkihaaGreatDoorMxp
import Derived.Test.YtfabnnbljkkihaaGreatDoorMx22
namespace Go.Proofs.YtfabnnbljkkihaaGreatDoor
open Go.ChangeShapes Go.WideShapes Go.ChangeAt Go.RowKit
set_option maxRecDepth 20000
set_option linter.unusedVariables false
set_option linter.unusedSimpArgs false
theorem pcsO_app (X : List Ptd) : ∀ (l : List Int) (n : Int) (r : List Int) (L : List Pcd), pcsO X l = some L -> pcsO X (l ++ n :: r) = (pcsO X (n :: r)).map (fun q => L ++ q)
 | [], n, r, L, h => by cases h; simp
 | m :: l, n, r, L, h => by
   rw [List.cons_append]
   have e1 : ∀ z, pcsO X (m :: z) = if isB (byP m) X then (X[plcB (byP m) X]?).bind (fun p => (pcsO X z).map (fun q => p.pc :: q)) else none := fun z => rfl
   rw [e1] at h
   rw [e1]
   by_cases hb : isB (byP m) X = true
   . rw [if_pos hb] at h ⊢
     cases hx : X[plcB (byP m) X]? with
     | none => rw [hx] at h; cases h
     | some p =>
       rw [hx] at h
       simp only [Option.bind_some] at h ⊢
       cases hl : pcsO X l with
       | none => rw [hl] at h; cases h
       | some L2 =>
         rw [hl] at h
         cases h
         rw [pcsO_app X l n r L2 hl]
         cases pcsO X (n :: r) <;> rfl
   . rw [if_neg hb] at h; cases h
theorem pcsO_no {X : List Ptd} {l r : List Int} {n : Int} {L : List Pcd} (h : pcsO X l = some L) (hb : isB (byP n) X = false) : pcsO X (l ++ n :: r) = none := by
 rw [pcsO_app X l n r L h]
 have e : pcsO X (n :: r) = none := by show (if isB (byP n) X then _ else none) = none; rw [hb]; rfl
 rw [e]; rfl
theorem pcsO_yes {X : List Ptd} {l : List Int} {n : Int} {L : List Pcd} {p : Ptd} (h : pcsO X l = some L) (hb : isB (byP n) X = true) (hp : X[plcB (byP n) X]? = some p) : pcsO X (l ++ [n]) = some (L ++ [p.pc]) := by
 rw [pcsO_app X l n [] L h]
 have e : pcsO X [n] = some [p.pc] := by show (if isB (byP n) X then _ else none) = _; rw [if_pos hb, hp]; rfl
 rw [e]; rfl
theorem pcsO_len {X : List Ptd} : ∀ {l : List Int} {L : List Pcd}, pcsO X l = some L -> L.length = l.length
 | [], L, h => by cases h; rfl
 | n :: l, L, h => by
   have e1 : pcsO X (n :: l) = if isB (byP n) X then (X[plcB (byP n) X]?).bind (fun p => (pcsO X l).map (fun q => p.pc :: q)) else none := rfl
   rw [e1] at h
   by_cases hb : isB (byP n) X = true
   . rw [if_pos hb] at h
     cases hx : X[plcB (byP n) X]? with
     | none => rw [hx] at h; cases h
     | some p =>
       rw [hx] at h
       simp only [Option.bind_some] at h
       cases hl : pcsO X l with
       | none => rw [hl] at h; cases h
       | some L2 => rw [hl] at h; cases h; simp [pcsO_len hl]
   . rw [if_neg hb] at h; cases h
theorem pcsO_mem {X : List Ptd} : ∀ {l : List Int} {L : List Pcd}, pcsO X l = some L -> ∀ c ∈ L, ∃ p ∈ X, p.pc = c
 | [], L, h => by cases h; intro c hc; cases hc
 | n :: l, L, h => by
   have e1 : pcsO X (n :: l) = if isB (byP n) X then (X[plcB (byP n) X]?).bind (fun p => (pcsO X l).map (fun q => p.pc :: q)) else none := rfl
   rw [e1] at h
   by_cases hb : isB (byP n) X = true
   . rw [if_pos hb] at h
     cases hx : X[plcB (byP n) X]? with
     | none => rw [hx] at h; cases h
     | some p =>
       rw [hx] at h
       simp only [Option.bind_some] at h
       cases hl : pcsO X l with
       | none => rw [hl] at h; cases h
       | some L2 =>
         rw [hl] at h
         cases h
         intro c hc
         rcases List.mem_cons.1 hc with rfl | hc
         . exact ⟨p, List.mem_of_getElem? hx, rfl⟩
         . exact pcsO_mem hl c hc
   . rw [if_neg hb] at h; cases h
def PcsR (w w' : World) (ra : Option Addr) (rn rc : Nat) (o : Option (List Pcd)) : Prop := (∀ l, o = some l -> Rw w' w.heap.size w'.heap.size 26 EPc ra rn rc l) /\ Below w.heap.size w w'
structure Po (w W : World) (X : List Ptd) (ps : List Int) (ra : Option Addr) (rc i : Nat) : Prop where
 r : ∃ L, pcsO X (ps.take i) = some L /\ Rw W w.heap.size W.heap.size 26 EPc ra i rc L
 b : Below w.heap.size w W
set_option maxHeartbeats 8000000 in
theorem piecesOf_n {w : World} {lo hi : Nat} {a : Option Addr} {n c : Nat} {X : List Ptd} {pa : Option Addr} {pn pc : Nat} {ps : List Int} (hA : Hid (Rw w lo hi 108 EPt a n c X)) (hn : n <= 1048576) (hI : Hid (Irow w 0 pa pn ps)) (hp : pn <= 1000) :
  Calls Tryz.prog 104 #[.slice a n c,.slice pa pn pc] w fun e w' => ∃ ra rn rc, e = .returned (.tuple #[.slice ra rn rc, .bool (pcsO X ps).isSome]) /\ Hid (PcsR w w' ra rn rc (pcsO X ps)) := by
 have LX : Hid (n = X.length) := hA.out.len
 have LP : Hid (pn = ps.length) := hI.out.len
 have P0 : Hid (Po w w X ps none 0 0) := ⟨⟨[], rfl, Rw.nil _ _ _ _ _ (by decide)⟩, Below.refl _ _⟩
 go_enter Tryz.func104, Tryz.ntmps104
 go_wp2
 go_loopw [6, 13] (fun t6 t13 wr => ∃ (i rc : Nat) (ra : Option Addr), i <= pn /\ t13 = .int .i64 i /\ t6 = .slice ra i rc /\ Hid (Po w wr X ps ra rc i)) (fun _ t13 _ => pn - (intOf t13).toNat)
 case atStart => exact ⟨0, 0, none, by omega, rfl, rfl, P0⟩
 case round =>
  clear P0
  obtain ⟨i, rc, ra, hi', rfl, rfl, HP⟩ := hrel
  by_cases hlt : i < pn
  . have i3 : (i : Int) < (pn : Int) := by omega
    obtain ⟨b0, o0, rfl, c0⟩ := (hI.out.below HP.out.b).at_ hlt
    obtain ⟨m, Hm⟩ := nm (ps.getD i 0)
    rw [Hm.out] at c0
    have EM : Hid (ps = ps.take i ++ m :: ps.drop (i + 1)) := by
     show _ = _
     have hk : i < ps.length := by rw [<- LP.out]; exact hlt
     have e : ps[i] = m := by rw [<- Hm.out]; simp [List.getD, hk]
     rw [<- e, List.getElem_cons_drop, List.take_append_drop]
    have ET : Hid (ps.take (i + 1) = ps.take i ++ [m]) := by
     show _ = _
     have hk : i < ps.length := by rw [<- LP.out]; exact hlt
     rw [List.take_add_one, List.getElem?_eq_getElem hk]
     have e : ps[i] = m := by rw [<- Hm.out]; simp [List.getD, hk]
     rw [e]; rfl
    have AW : Hid (Rw wr lo hi 108 EPt a n c X) := hA.out.below HP.out.b
    obtain ⟨p, Hp⟩ := nm (plcB (byP m) X)
    obtain ⟨is, HIS⟩ := nm (isB (byP m) X)
    rcases is with _ | _
    . have NO : Hid (pcsO X ps = none) := by
       obtain ⟨L, h1, _⟩ := HP.out.r
       show _ = _
       rw [EM.out]
       exact pcsO_no h1 HIS.out
      go_wp2_with (go_at_call 122; refine (findP m AW hn).mono ?_; rintro e w2 ⟨rfl, H2⟩; rw [Hp.out, HIS.out])
      go_ret2
      refine ⟨none, 0, 0, by rw [NO.out]; rfl, fun l h => ?_, HP.out.b.trans (H2.out.mono HP.out.b.size)⟩
      rw [NO.out] at h
      cases h
    . have pl : p < n := by rw [<- Hp.out, LX.out]; exact isB_lt HIS.out
      have i1' : (p : Int) < (n : Int) := by omega
      have kx : p < X.length := by rw [<- LX.out]; exact pl
      obtain ⟨b1, rfl, _, lb1, e1⟩ := AW.out.at_ kx
      obtain ⟨q, Hq⟩ := nm (X[p])
      rw [Hq.out] at e1
      have EX : Hid (X[p]? = some q) := by show _ = _; rw [<- Hq.out]; exact List.getElem?_eq_getElem kx
      have E1 : Hid (wr.rangeAt b1 (p * 6 + 1) (EPc.e q.pc)) := fun j v hv => by
       have h := e1 (1 + j) v (by
        show (encPt q)[1 + j]? = some v
        rw [Nat.add_comm]
        exact hv)
       rw [<- Nat.add_assoc] at h
       exact h
      have LB : Hid (b1 < wr.heap.size) := lb1
      obtain ⟨A, HA⟩ : ∃ A, Hid (A = (EPc.e q.pc).toArray) := ⟨_, rfl⟩
      have az : A.size = 5 := arr_sz HA.out
      have FD : Hid (Array.foldl (fun cs (x : Value × Nat) => cs.setIfInBounds x.snd x.fst) #[.int .i64 0,.int .i64 0,.int .i64 0,.int .i64 0,.string ⟨#[]⟩] A.zipIdx 0 5 = A) := fold26 HA.out
      clear e1 Hq kx lb1 pl
      go_wp2_with (first
       | (go_at_call 122; refine (findP m AW hn).mono ?_; rintro e w2 ⟨rfl, H2⟩; rw [Hp.out, HIS.out]
          have E2 : Hid (w2.rangeAt b1 (p * 6 + 1) (EPc.e q.pc)) := fun j v hv => (World.cell?_of_block (w := wr) (a := ⟨b1, p * 6 + 1 + j, none⟩) (H2.out.block b1 LB.out)).trans (E1.out j v hv)
          obtain ⟨g4, Hg4⟩ := nm (w2.heap.size)
          obtain ⟨w4, Hw4⟩ := nm (w2.alloc (.cells A 26))
          have B4 : Hid (Below wr.heap.size wr w4) := (by rw [<- Hw4.out]; exact H2.out.trans ((alloc1 w2 _).mono H2.out.size))
          have k4 : Hid (w4.heap[g4]? = some (.cells (EPc.e q.pc).toArray 26 (0, 0))) := (by rw [<- Hw4.out, <- Hg4.out, <- HA.out]; exact heap_alloc_new w2 _)
          obtain ⟨L, l1, l2⟩ := HP.out.r
          have hlo4 : w.heap.size <= w4.heap.size := Nat.le_trans HP.out.b.size B4.out.size
          obtain ⟨a6, c6, w6, r1, r2, r3⟩ := app_end (s := 69) (l2.below B4.out) (by omega) hlo4 Tryz.underlying69 inf26 rfl (by decide) k4.out
          have AR : Hid ((Builtin.append_ #[69, 69] 69 #[.slice ra i rc,.slice (some ⟨g4, 0, none⟩) 1 1]).run Tryz.prog w4 = .ok (.slice a6 (i + 1) c6) w6) := r1
          have FIN : Hid (Po w w6 X ps a6 c6 (i + 1)) := ⟨⟨L ++ [q.pc], (by rw [ET.out]; exact pcsO_yes l1 HIS.out (by rw [Hp.out]; exact EX.out)), r2⟩, (HP.out.b.trans (B4.out.mono HP.out.b.size)).trans (r3.toBelow hlo4 (fun z hz e => by have := (l2.lt e).1; omega))⟩
          clear r1 r2 r3 l1 l2)
       | (refine wpList_load_mid (by rfl) 26 (.tmp 29) (by rfl) b1 (p * 6 + 1) (by rfl) (EPc.e q.pc) _ E2.out Tryz.underlying26 rfl (by rw [EPc.len]; exact inz26) ?_; rw [<- HA.out])
       | (at_builtin; rw [FD.out, Hw4.out, Hg4.out]; refine wpList_appt (by rfl) (.tmp 25) (.tmp 31) (by rfl) (by rfl) (by rfl) (by rfl) AR ?_))
      go_roundw
      case rel => exact ⟨i + 1, c6, a6, by omega, by go_num, rfl, FIN⟩
      case measure => simp [intOf]; omega
  . have ein : i = pn := by omega
    subst ein
    obtain ⟨L, h1, h2⟩ := HP.out.r
    rw [List.take_of_length_le (by have := LP.out; omega)] at h1
    have H1 : Hid (pcsO X ps = some L) := h1
    have H2 : Hid (Rw wr w.heap.size wr.heap.size 26 EPc ra i rc L) := h2
    clear h1 h2
    go_wp2
    go_ret2
    refine ⟨ra, i, rc, by rw [H1.out]; rfl, fun l h => ?_, HP.out.b⟩
    rw [H1.out] at h
    cases h
    exact H2.out
end Go.Proofs.YtfabnnbljkkihaaGreatDoor
