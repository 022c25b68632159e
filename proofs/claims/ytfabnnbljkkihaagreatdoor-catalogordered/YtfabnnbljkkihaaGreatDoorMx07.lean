import Derived.Test.YtfabnnbljkkihaaGreatDoorMxp
import Derived.Test.YtfabnnbljkkihaaGreatDoorMx06
namespace Go.Proofs.YtfabnnbljkkihaaGreatDoor.Sh
open Go.ChangeShapes Go.WideShapes Go.ChangeAt Go.RowKit
set_option linter.unusedVariables false
set_option linter.unusedSimpArgs false
def slen : Value -> Nat
 | .slice _ n _ => n
 | _ => 0
structure Wrt (w wr : World) (g : Nat) (A l : List Nat) (j : Nat) (a : Option Addr) (n : Nat) : Prop where
 le : j <= l.length
 hs : HS wr g (A ++ l.take j)
 sl : Sln wr a n (l.drop j)
 ap : ∀ b off, l.drop j ≠ [] -> a = some ⟨b, off, none⟩ -> b ≠ g
 but : But g w wr
theorem shslice_from {w : World} {a : Option Addr} {n c lo : Nat} {l : List Nat} (h : Sln w a n l) (hlo : lo <= n) (hc : n <= c) : Sln w (if c = lo then a else a.map (·.add lo)) (n - lo) (l.drop lo) := by
 have e := h.len
 refine ⟨by simp; omega, fun x hx => h.lt x (List.mem_of_mem_drop hx), by have := h.sli.2.1; simp; omega, ?_⟩
 by_cases h0 : l.drop lo = []
 . exact .inl h0
 . right
   have h1 : lo < l.length := by
    have : ¬ l.length <= lo := fun hh => h0 (List.drop_eq_nil_of_le hh)
    omega
   obtain ⟨b, off, rfl, hl, hr⟩ := h.sli.2.2.resolve_left (by intro hh; rw [hh] at h1; simp at h1)
   rw [if_neg (by omega)]
   refine ⟨b, off + lo, by simp [Addr.add], hl, fun i hi => ?_⟩
   have h2 := hr (lo + i) (by simp at hi; omega)
   have h3 : (l.drop lo).getD i 0 = l.getD (lo + i) 0 := by simp [List.getD]
   rw [h3, Nat.add_assoc]
   exact h2
theorem slice_apart {w : World} {a : Option Addr} {n c q g : Nat} {l : List Nat} (hap : ∀ b off, l ≠ [] -> a = some ⟨b, off, none⟩ -> b ≠ g) (h : Sln w a n l) : ∀ b off, l.drop q ≠ [] -> (if c = q then a else a.map (·.add q)) = some ⟨b, off, none⟩ -> b ≠ g := by
 intro b off h1 h2
 have hl : l ≠ [] := by intro h; rw [h] at h1; simp at h1
 obtain ⟨b', off', rfl, _, _⟩ := h.sli.2.2.resolve_left hl
 have h3 := hap b' off' hl rfl
 split at h2
 . simp at h2
   rw [<- h2.1]; exact h3
 . have h4 : (⟨b', off', none⟩ : Addr).add q = ⟨b', off' + q, none⟩ := by simp [Addr.add]
   rw [Option.map_some, h4] at h2
   simp at h2
   rw [<- h2.1]; exact h3
theorem pad_splice {t x : List Nat} {r q : Nat} (ht : t.length = r) (hx : x.length = q) (h : r + q <= 64) : (Gs.pad t).take r ++ x ++ (Gs.pad t).drop (r + q) = Gs.pad (t ++ x) := by
 subst ht; subst hx
 have e : 64 - (t.length + x.length) = 64 - t.length - x.length := by omega
 simp [Gs.pad, List.drop_append, List.drop_replicate, e]
theorem hcells_splice {ws rs x : List Nat} {N r q : Nat} (h1 : ws.length = 8) (h2 : rs.length = 64) (h : r + q <= 64) :
  (hcells ws rs N).take (8 + r) ++ x.map (wv .u8) ++ (hcells ws rs N).drop (8 + r + q) = hcells ws (rs.take r ++ x ++ rs.drop (r + q)) N := by
 have e1 : (hcells ws rs N).take (8 + r) = ws.map (wv .u32) ++ (rs.take r).map (wv .u8) := by
  unfold hcells
  rw [List.take_append_of_le_length (by simp [h1, h2]; omega)]
  have : 8 + r = (ws.map (wv .u32)).length + r := by simp [h1]
  rw [this, List.take_length_add_append]
  simp
 have e2 : (hcells ws rs N).drop (8 + r + q) = (rs.drop (r + q)).map (wv .u8) ++ [.int .i64 (N : Int)] := by
  unfold hcells
  rw [List.drop_append_of_le_length (by simp [h1, h2]; omega)]
  have : 8 + r + q = (ws.map (wv .u32)).length + (r + q) := by simp [h1]; omega
  rw [this, List.drop_length_add_append]
  simp
 rw [e1, e2]
 simp [hcells]
theorem copy_hsh (w : World) (g r m c dc N : Nat) (a : Option Addr) (ws rs l : List Nat) (hH : Hsh w g ws rs N) (hr : r <= 64) (hS : Sln w a m l) (h0 : min m (64 - r) ≠ 0) :
  ∃ w1, (Builtin.copy_ #[165, 165] 3 #[.slice (some ⟨g, 8 + r, none⟩) (64 - r) dc,.slice a m c]).run Tryz.prog w = .ok (goInt (min m (64 - r) : Nat)) w1 /\ Hsh w1 g ws (rs.take r ++ l.take (min m (64 - r)) ++ rs.drop (r + min m (64 - r))) N /\ Oth g w w1 := by
 have e := hS.len
 have hl0 : l ≠ [] := by intro h; rw [h] at e; simp at e; omega
 obtain ⟨sb, so, rfl, hl, hrw⟩ := hS.sli.2.2.resolve_left hl0
 obtain ⟨q, hq⟩ : ∃ q, q = min m (64 - r) := ⟨_, rfl⟩
 rw [<- hq]
 have hcl : ((l.take q).map bv).length = min m (64 - r) := by simp; omega
 have hrun := run_copy_row (P := Tryz.prog) w 165 165 3 5 g (8 + r) (64 - r) dc ⟨sb, so, none⟩ m c _ 190 ((l.take q).map bv) Tryz.underlying165 size5 hH.blk
  (by rw [hcl]) (fun j v hv => by
   have hv2 : (l.map bv)[j]? = some v := by
      rw [List.map_take] at hv
      rw [List.getElem?_take] at hv
      split at hv
      . exact hv
      . cases hv
   exact map_cells hrw j v hv2) (by rw [hcl]; simp [hcells, hH.l1, hH.l2]; omega) (fun v hv => map_one _ v hv)
 rw [hcl, <- hq] at hrun
 refine ⟨_, hrun, ⟨?_, hH.l1, ?_⟩, ?_⟩
 . have h7 := setRow_heap w g _ ((((hcells ws rs N).toArray.toList.take (8 + r) ++ (l.take q).map bv ++ (hcells ws rs N).toArray.toList.drop (8 + r + q)).toArray)) 190 (0, 0) hH.blk
   refine h7.trans ?_
   have h8 := hcells_splice (ws := ws) (rs := rs) (x := l.take q) (N := N) (r := r) (q := q) hH.l1 hH.l2 (by omega)
   rw [<- h8]
   rfl
 . simp [hH.l2]; omega
 . exact ⟨rfl, rfl, rfl, by simp [World.setRow], fun k hk => by
    simp only [World.setRow]
    rw [Array.getElem?_modify, if_neg (by omega)]⟩
theorem setCells_blk (g : Nat) (t : TypeId) : ∀ (vs mid pre post : List Value) (w : World), mid.length = vs.length -> w.heap[g]? = some (.cells (pre ++ mid ++ post).toArray t (0, 0)) →
  (w.setCells g pre.length vs).heap[g]? = some (.cells (pre ++ vs ++ post).toArray t (0, 0)) /\ Oth g w (w.setCells g pre.length vs)
 | [], mid, pre, post, w, hm, h => by
   have : mid = [] := List.eq_nil_of_length_eq_zero hm
   subst this
   exact ⟨h, Oth.refl _ _⟩
 | v :: r, [], pre, post, w, hm, h => by simp at hm
 | v :: r, m :: ms, pre, post, w, hm, h => by
   have h1 : (w.setCell ⟨g, pre.length, none⟩ v).heap[g]? = some (.cells ((pre ++ [v]) ++ ms ++ post).toArray t (0, 0)) := by
    rw [setCell_eq_setRow w g pre.length _ t (0, 0) v h, setRow_heap w g _ _ t (0, 0) h]
    simp
   have ih := setCells_blk g t r ms (pre ++ [v]) post (w.setCell ⟨g, pre.length, none⟩ v) (by simpa using hm) h1
   have e : (pre ++ [v]).length = pre.length + 1 := by simp
   rw [e] at ih
   refine ⟨?_, ((Oth.refl g w).setCell pre.length v).trans ih.2⟩
   rw [World.setCells]
   have := ih.1
   simpa using this
theorem Hsh.setWs {w : World} {g N : Nat} {ws rs ws2 : List Nat} (h : Hsh w g ws rs N) (h2 : ws2.length = 8) : Hsh (w.setCells g 0 (cs .u32 ws2).toList) g ws2 rs N /\ Oth g w (w.setCells g 0 (cs .u32 ws2).toList) := by
 have := setCells_blk g 190 (ws2.map (wv .u32)) (ws.map (wv .u32)) [] (rs.map (wv .u8) ++ [.int .i64 (N : Int)]) w (by simp [h.l1, h2]) (by rw [h.blk]; simp [hcells])
 refine ⟨⟨?_, h2, h.l2⟩, this.2⟩
 refine this.1.trans ?_
 simp [hcells]
theorem Hsh.setRs {w : World} {g N : Nat} {ws rs rs2 : List Nat} (h : Hsh w g ws rs N) (h2 : rs2.length = 64) : Hsh (w.setCells g 8 (cs .u8 rs2).toList) g ws rs2 N /\ Oth g w (w.setCells g 8 (cs .u8 rs2).toList) := by
 have := setCells_blk g 190 (rs2.map (wv .u8)) (rs.map (wv .u8)) (ws.map (wv .u32)) [.int .i64 (N : Int)] w (by simp [h.l2, h2]) (by rw [h.blk]; simp [hcells])
 have e : (ws.map (wv .u32)).length = 8 := by simp [h.l1]
 rw [e] at this
 exact ⟨⟨this.1, h.l1, h2⟩, this.2⟩
theorem wpList_stm {ops : Array Oper} {rest : List Oper} {o : Oper} {a : Act} {Q : Exit -> Act -> World -> Prop} {w w2 : World} {k : IntKind} {g off : Nat} {l2 : List Nat} (hgd : o.guard = none) (hd : o.dst = none) (ty : TypeId) (x y : Operand)
  (ho : o.op = .store ty x y) (hx : a.eval x = .pointer (some ⟨g, off, none⟩)) (hy : a.eval y = .agg (cs k l2)) (ht : w.there g off l2.length) (hi : (Tryz.prog.info? ty).map (·.size) = some l2.length) (hw : w.setCells g off (cs k l2).toList = w2)
  (h : wpList Tryz.prog ops Q rest a w2) : wpList Tryz.prog ops Q (o :: rest) a w := by
 refine wpList_store_mid hgd ty x y ho g off (cs k l2) hx hy (by rw [cs_size]; exact ht) (by rw [cs_size]; exact hi) (cs_one _ _) ?_
 rw [hd, hw]
 exact h
theorem wpList_sti {ops : Array Oper} {rest : List Oper} {o : Oper} {a : Act} {Q : Exit -> Act -> World -> Prop} {w : World} {g i : Nat} {u : Value} {v : Int} (hgd : o.guard = none) (hd : o.dst = none) (x y : Operand)
  (ho : o.op = .store 3 x y) (hx : a.eval x = .pointer (some ⟨g, i, none⟩)) (hy : a.eval y = .int .i64 v) (c : w.cell? ⟨g, i, none⟩ = some u) (f : w.frozen? ⟨g, i, none⟩ = false)
  (h : wpList Tryz.prog ops Q rest a (w.setCell ⟨g, i, none⟩ (.int .i64 v))) : wpList Tryz.prog ops Q (o :: rest) a w := by
 refine wpList_plain hgd fun K hK => ?_
 have h2 := hK _ _ h
 unfold Oper.wp execOp
 simp only [ho, hx, hy, Instr.storeAt, Instr.sureAddr, Sem.run_bind, Sem.run_pure, Result.andThen_ok]
 have hs : (storeVar 3 ⟨g, i, none⟩ (.int .i64 v)).run Tryz.prog w = .ok () (w.setCell ⟨g, i, none⟩ (.int .i64 v)) := by
  simp [go_sem, storeVar, c, f]
 rw [hs]
 show K (a.put o.dst undef) _
 rw [hd]
 exact h2
theorem Hsh.setLen {w : World} {g N : Nat} {ws rs : List Nat} (h : Hsh w g ws rs N) (N2 : Nat) : Hsh (w.setCell ⟨g, 72, none⟩ (.int .i64 (N2 : Int))) g ws rs N2 := by
 refine ⟨?_, h.l1, h.l2⟩
 rw [setCell_eq_setRow w g 72 _ 190 (0, 0) _ h.blk]
 have h1 := setRow_heap w g _ ((hcells ws rs N).toArray.setIfInBounds 72 (.int .i64 (N2 : Int))) 190 (0, 0) h.blk
 rw [h1]
 have : (hcells ws rs N).set 72 (.int .i64 (N2 : Int)) = hcells ws rs N2 := by
  unfold hcells
  rw [List.set_append_right _ _ (by simp [h.l1, h.l2])]
  simp [h.l1, h.l2]
 simp [this]
theorem wp_ld {o : Oper} {a : Act} {K : Act -> World -> Prop} {Q : Exit -> Act -> World -> Prop} {w : World} {k : IntKind} {g off : Nat} {l : List Nat} (ty : TypeId) (x : Operand)
  (ho : o.op = .load ty x) (hx : a.eval x = .pointer (some ⟨g, off, none⟩)) (hr : Hid (Rng k w g off l)) (hu : ∃ d, Tryz.prog.underlying ty = some d /\ d.isRow = true) (hi : (Tryz.prog.info? ty).map (·.size) = some l.length)
  (h : K (a.put o.dst (.agg (cs k l))) w) : o.wp Tryz.prog a w K Q := by
 obtain ⟨d, h1, h2⟩ := hu
 exact wp_load_mid ty x ho g off hx (l.map (wv k)) d hr.out h1 h2 (by rw [hi]; simp) h
theorem wpAny_seq' {lst : List Oper} {fuel k : Nat} {listed : Array Bool} {a : Act} {w : World} {Q : Exit -> Act -> World -> Prop} (hf : fuel = (lst.drop k).length) (hB : Region.seqB .any lst.toArray (lst.drop k).length k listed = true)
  (h : wpList Tryz.prog lst.toArray Q (lst.drop k) a w) : wpAny Tryz.prog .any lst.toArray Q fuel listed a w := by
 subst hf
 exact wpAny_of_seq (md := .any) (lst.drop k) k listed a w (fun j => by simp [List.getElem?_drop]) hB h
theorem Wrt.go {w wr w' : World} {g n j q N N2 : Nat} {A l : List Nat} {a a2 : Option Addr} (h : Wrt w wr g A l j a n) (hj : j + q <= l.length) (hX : l.take j ++ (l.drop j).take q = l.take (j + q))
  (hS : Sln wr a2 (n - q) ((l.drop j).drop q)) (hA : ∀ b off, (l.drop j).drop q ≠ [] -> a2 = some ⟨b, off, none⟩ -> b ≠ g) (hN : (A ++ l.take j).length = N) (hN2 : N2 = N + q)
  (hw : Hsh w' g (Gs.words (A ++ l.take j ++ (l.drop j).take q)) (Gs.rest (A ++ l.take j ++ (l.drop j).take q)) N2) (hb : But g wr w') : Wrt w w' g A l (j + q) a2 (n - q) := by
 have e1 : A ++ l.take j ++ (l.drop j).take q = A ++ l.take (j + q) := by rw [List.append_assoc, hX]
 have e2 : (l.drop j).drop q = l.drop (j + q) := by rw [List.drop_drop]
 rw [e1] at hw
 have e3 : N2 = (A ++ l.take (j + q)).length := by rw [hN2, <- hN]; simp; omega
 rw [e3] at hw
 refine ⟨hj, ⟨hw, ?_⟩, by rw [<- e2]; exact hb.sln hS hA, by rw [<- e2]; exact hA, h.but.trans hb⟩
 intro x hx
 rw [<- e1] at hx
 rcases List.mem_append.1 hx with h1 | h1
 . exact h.hs.lt x h1
 . exact h.sl.lt x (List.mem_of_mem_take h1)
theorem take_len {wr : World} {l : List Nat} {j q n r : Nat} {a : Option Addr} (h : Sln wr a n (l.drop j)) (hq : q = min n (64 - r)) : ((l.drop j).take q).length = q := by
 have := h.len
 simp at this
 simp; omega
theorem Wrt.part {w wr w' : World} {g n j q N N2 r : Nat} {A l : List Nat} {a a2 : Option Addr} (h : Wrt w wr g A l j a n) (hj : j + q <= l.length) (hX : l.take j ++ (l.drop j).take q = l.take (j + q))
  (hS : Sln wr a2 (n - q) ((l.drop j).drop q)) (hA : ∀ b off, (l.drop j).drop q ≠ [] -> a2 = some ⟨b, off, none⟩ -> b ≠ g) (hN : (A ++ l.take j).length = N) (hr : r = N % 64) (hN2 : N2 = N + q) (hq : q = min n (64 - r)) (hz : r + q < 64)
  (hw : Hsh w' g (Gs.words (A ++ l.take j)) (Gs.pad (tl (A ++ l.take j) ++ (l.drop j).take q)) N2) (hb : But g wr w') : Wrt w w' g A l (j + q) a2 (n - q) := by
 have hl := take_len h.sl hq
 have h1 : (A ++ l.take j).length % 64 + ((l.drop j).take q).length < 64 := by rw [hN, hl, <- hr]; exact hz
 refine h.go hj hX hS hA hN hN2 ?_ hb
 rw [words_app _ _ h1, rest_eq, tl_app _ _ h1]
 exact hw
theorem Wrt.full {w wr w' : World} {g n j q N N2 r : Nat} {A l : List Nat} {a a2 : Option Addr} (h : Wrt w wr g A l j a n) (hj : j + q <= l.length) (hX : l.take j ++ (l.drop j).take q = l.take (j + q))
  (hS : Sln wr a2 (n - q) ((l.drop j).drop q)) (hA : ∀ b off, (l.drop j).drop q ≠ [] -> a2 = some ⟨b, off, none⟩ -> b ≠ g) (hN : (A ++ l.take j).length = N) (hr : r = N % 64) (hN2 : N2 = N + q) (hq : q = min n (64 - r)) (hz : r + q = 64)
  (hw : Hsh w' g (Gs.after (Gs.words (A ++ l.take j)) (tl (A ++ l.take j) ++ (l.drop j).take q)) Zb64 N2) (hb : But g wr w') : Wrt w w' g A l (j + q) a2 (n - q) := by
 have hl := take_len h.sl hq
 have h1 : (A ++ l.take j).length % 64 + ((l.drop j).take q).length = 64 := by rw [hN, hl, <- hr]; exact hz
 have h2 := full_app _ _ h1
 refine h.go hj hX hS hA hN hN2 ?_ hb
 rw [h2.1, rest_eq, h2.2]
 exact hw
theorem But.kst {g : Nat} {w w' : World} (h : But g w w') (hK : Kst w) (h0 : 19 < w.heap.size) (hg : g ≠ 19) : Kst w' := fun i hi => (World.cell?_of_block (w := w) (a := ⟨19, i, none⟩) (h.block 19 h0 (fun e => hg e.symm))).trans (hK i hi)
set_option maxRecDepth 20000 in
set_option maxHeartbeats 2000000 in
theorem write_n (w : World) (g n k : Nat) (A l : List Nat) (a : Option Addr) (hH : Hid (HS w g A)) (hS : Hid (Sln w a n l)) (hk : n <= k) (hap : Hid (∀ b off, l ≠ [] -> a = some ⟨b, off, none⟩ -> b ≠ g)) (hK : Hid (Kst w)) (h0 : 19 < w.heap.size) (hg : g ≠ 19) (hlen : Hid (A.length + l.length < 4611686018427387904)) :
  Calls Tryz.prog 126 #[.pointer (some ⟨g, 0, none⟩),.slice a n k] w fun e w' => e = .returned (.tuple #[]) /\ Hid (HS w' g (A ++ l) /\ But g w w') := by
 go_enter Tryz.func126, Tryz.ntmps126
 go_wp2
 go_loopw [1] (fun tb wr => ∃ (j : Nat) (a' : Option Addr) (n' k' : Nat), tb = .slice a' n' k' /\ n' <= k' /\ Hid (Wrt w wr g A l j a' n')) (fun tb _ => slen tb)
 case atStart =>
  refine ⟨0, a, n, k, rfl, hk, ?_⟩
  exact ⟨Nat.zero_le _, by simpa using hH.out, by simpa using hS.out, by simpa using hap.out, But.refl _ _⟩
 case round =>
  obtain ⟨j, a', n', k', rfl, hk', HW⟩ := hrel
  by_cases hn0 : 0 < n'
  . obtain ⟨N, HN⟩ := nm ((A ++ l.take j).length)
    have n62 : N < 4611686018427387904 := by
     have := hlen.out
     have h2 := HW.out.le
     rw [<- HN.out]; simp; omega
    have c72 : wr.cell? ⟨g, 72, none⟩ = some (.int .i64 (N : Int)) := by rw [<- HN.out]; exact HW.out.hs.h.len
    obtain ⟨r, hr⟩ : ∃ r, r = N % 64 := ⟨_, rfl⟩
    have hr1 : (N : Int) % 64 = (r : Int) := by omega
    have hr3 : Int.tmod (N : Int) 64 = (r : Int) := by rw [Int.tmod_eq_emod_of_nonneg (by omega)]; exact hr1
    have hr2 : r < 64 := by omega
    have i1 : (0 : Int) < (n' : Int) := by omega
    have i2 : (0 : Int) <= (r : Int) := by omega
    have i3 : (r : Int) <= 64 := by omega
    have i4 : ¬ (64 = r) := by omega
    have HR : Hid (r = N % 64) := hr
    clear hr
    go_wp2
    go_still_tail 10, (by kernel_rfl)
    have Hd : Hsh wr.drew g (Gs.words (A ++ l.take j)) (Gs.rest (A ++ l.take j)) N := by rw [<- HN.out]; exact HW.out.hs.h.drewN 1
    obtain ⟨w1, cp, H1, O1⟩ := copy_hsh wr.drew g r n' k' (64 - r) N a' _ _ _ Hd (by omega) HW.out.sl.drew (by omega)
    obtain ⟨q, hq⟩ : ∃ q, q = min n' (64 - r) := ⟨_, rfl⟩
    have hq1 : q <= n' := by omega
    have hq2 : r + q <= 64 := by omega
    have hq3 : 0 < q := by omega
    rw [<- hq] at cp H1
    have hl' : n' = (l.drop j).length := HW.out.sl.len
    have hj2 : j + q <= l.length := by simp at hl'; have := HW.out.le; omega
    have hqx : ((l.drop j).take q).length = q := by simp; omega
    rw [rest_eq, pad_splice (by rw [tl_length, HN.out, HR.out]) hqx hq2] at H1
    have HX : Hid (l.take j ++ (l.drop j).take q = l.take (j + q)) := by rw [List.take_add]; exact rfl
    obtain ⟨N2, hN2⟩ : ∃ N2, N2 = N + q := ⟨_, rfl⟩
    have e2 : (N : Int) + (q : Int) = (N2 : Int) := by omega
    have c1 : w1.cell? ⟨g, 72, none⟩ = some (.int .i64 (N : Int)) := H1.len
    have f1 : w1.frozen? ⟨g, 72, none⟩ = false := H1.frozen 72
    obtain ⟨w2, W2⟩ := nm (w1.setCell ⟨g, 72, none⟩ (.int .i64 (N2 : Int)))
    have H2 : Hid (Hsh w2 g (Gs.words (A ++ l.take j)) (Gs.pad (tl (A ++ l.take j) ++ (l.drop j).take q)) N2) := by rw [<- W2.out]; exact H1.setLen N2
    have O2 : Hid (Oth g wr.drew w2) := by rw [<- W2.out]; exact O1.setCell 72 _
    have c2 : w2.cell? ⟨g, 72, none⟩ = some (.int .i64 (N2 : Int)) := H2.out.len
    have n63 : (N2 : Int) < 9223372036854775807 := by have := HW.out.sl.sli.2.1; omega
    obtain ⟨r2, hr2'⟩ : ∃ r2, r2 = N2 % 64 := ⟨_, rfl⟩
    have t2 : Int.tmod (N2 : Int) 64 = (r2 : Int) := by rw [Int.tmod_eq_emod_of_nonneg (by omega)]; omega
    have t3 : (N2 : Int) % 64 = (r2 : Int) := by omega
    have hr0 := HR.out
    have s1 : (0 : Int) <= (q : Int) := by omega
    have s2 : (q : Int) <= (n' : Int) := by omega
    generalize hw4 : ({ heap := wr.heap, tape := wr.tape, drawn := wr.drawn + 1, os := wr.os, output := wr.output } : World) = w4
    have hw5 : wr.drew = w4 := hw4
    rw [hw5] at cp
    have SX : Hid (Sln wr (if k' = q then a' else a'.map (·.add q)) (n' - q) ((l.drop j).drop q)) := shslice_from HW.out.sl hq1 hk'
    have AX : Hid (∀ b off, (l.drop j).drop q ≠ [] -> (if k' = q then a' else a'.map (·.add q)) = some ⟨b, off, none⟩ -> b ≠ g) := slice_apart HW.out.ap HW.out.sl
    obtain ⟨a2, A2⟩ : ∃ a2, (if k' = q then a' else Option.map (fun x => x.add q) a') = a2 := ⟨_, rfl⟩
    rw [A2] at SX AX
    have HQ : Hid (q = min n' (64 - r) /\ N2 = N + q /\ r2 = N2 % 64) := ⟨hq, hN2, hr2'⟩
    have nq : Hid (n' - q < n' /\ n' - q <= k' - q) := ⟨by omega, by omega⟩
    have hz0 : (r + q = 64 /\ r2 = 0) ∨ (r + q < 64 /\ ¬ ((r2 : Int) = 0)) := by omega
    have wN : IntKind.i64.wrap (N2 : Int) = (N2 : Int) := by rw [IntKind.wrap_i64]; omega
    clear n62 n63 hw4 hw5 H1 O1 Hd c72 hqx hq hN2 hr2' hr0 hl'
    rcases hz0 with ⟨hz, r20⟩ | ⟨hz, r20⟩
    . subst r20
      have HZ : Hid (r + q = 64) := hz
      clear hz
      go_wp2_with (refine wpList_sti (by rfl) (by rfl) (.tmp 29) (.tmp 27) (by rfl) (by rfl) (by rfl) c1 f1 ?_; (try rw [e2]); rw [W2.out])
      clear c1 f1 c2 cp A2 t2 t3 e2 wN i1 i2 i3 i4 s1 s2 hr1 hr3
      obtain ⟨ws, WS⟩ := nm (Gs.words (A ++ l.take j))
      obtain ⟨rs, RS⟩ := nm (tl (A ++ l.take j) ++ (l.drop j).take q)
      have hqx : ((l.drop j).take q).length = q := by
       have h5 := HQ.out.1
       have h6 := HW.out.sl.len
       simp at h6
       simp; omega
      have LR : Hid (rs.length = 64) := by
       rw [<- RS.out, List.length_append, tl_length, HN.out, hqx, <- HR.out]; exact HZ.out
      have LW : Hid (ws.length = 8) := by rw [<- WS.out]; exact words_length _
      have BW : Hid (Lt32 ws) := by rw [<- WS.out]; exact words_lt _
      have BR : Hid (∀ x ∈ rs, x < 256) := by
       rw [<- RS.out]
       intro x hx
       rcases List.mem_append.1 hx with h | h
       . exact HW.out.hs.lt x (List.mem_of_mem_drop h)
       . exact HW.out.sl.lt x (List.mem_of_mem_take h)
      have H3 : Hid (Hsh w2.drew g ws rs N2) := by
       have := H2.out.drewN 1
       rw [RS.out, pad_full _ LR.out, WS.out] at this
       exact this
      have O3 : Hid (But g wr w2.drew) := (((But.refl g wr).drewN 1).trans (But.oth O2.out)).drewN 1
      have K3 : Hid (Kst w2.drew) := (HW.out.but.trans O3.out).kst hK.out h0 hg
      have R1 : Hid (Rng .u32 w2.drew g 0 ws) := H3.out.wsR
      have R2 : Hid (Rng .u8 w2.drew g 8 rs) := H3.out.rsR
      have p0 : 19 < w2.drew.heap.size := Nat.lt_of_lt_of_le h0 (HW.out.but.trans O3.out).size
      generalize hw6 : w2.drew = w6 at H3 O3 K3 R1 R2 p0
      have hw7 : ({ heap := w2.heap, tape := w2.tape, drawn := w2.drawn + 1, os := w2.os, output := w2.output } : World) = w6 := hw6
      have P0 : Hid (19 < w6.heap.size) := p0
      refine wp_region_any (by kernel_rfl) ?_
      rw [hw7]
      clear hw6 hw7 p0
      refine wpAny_take (i := 0) (v := .pointer (some ⟨g, 0, none⟩)) rfl (by kernel_rfl) (by kernel_rfl) (by kernel_rfl) (fun _ _ _ h => h) (Or.inl ⟨by rfl, fun w => by go_simp⟩) ?_
      simp only [pA,pB,pC,Act.put,pD,pE,pF]
      refine wpAny_take (i := 1) (v := .pointer (some ⟨g, 0, none⟩)) rfl (by kernel_rfl) (by kernel_rfl) (by kernel_rfl) (fun _ _ _ h => h) (Or.inl ⟨by rfl, fun w => by go_simp⟩) ?_
      simp only [pA,pB,pC,Act.put,pD,pE,pF]
      refine wpAny_take (i := 2) (v := .pointer (some ⟨g, 0, none⟩)) rfl (by kernel_rfl) (by kernel_rfl) (by kernel_rfl) (fun _ _ _ h => h) (Or.inl ⟨by rfl, fun w => by go_simp⟩) ?_
      simp only [pA,pB,pC,Act.put,pD,pE,pF]
      refine wpAny_take (i := 3) (v := .pointer (some ⟨g, 0, none⟩)) rfl (by kernel_rfl) (by kernel_rfl) (by kernel_rfl) (fun _ _ _ h => h) (Or.inl ⟨by rfl, fun w => by go_simp⟩) ?_
      simp only [pA,pB,pC,Act.put,pD,pE,pF]
      refine wpAny_take (i := 5) (v := .pointer (some ⟨g, 0, none⟩)) rfl (by kernel_rfl) (by kernel_rfl) (by kernel_rfl) (fun _ _ _ h => h) (Or.inl ⟨by rfl, fun w => by go_simp⟩) ?_
      simp only [pA,pB,pC,Act.put,pD,pE,pF]
      refine wpAny_take (i := 6) (v := .pointer (some ⟨g, 0, none⟩)) rfl (by kernel_rfl) (by kernel_rfl) (by kernel_rfl) (fun _ _ _ h => h) (Or.inl ⟨by rfl, fun w => by go_simp⟩) ?_
      simp only [pA,pB,pC,Act.put,pD,pE,pF]
      refine wpAny_take (i := 7) (v := .pointer (some ⟨g, 8, none⟩)) rfl (by kernel_rfl) (by kernel_rfl) (by kernel_rfl) (fun _ _ _ h => h) (Or.inl ⟨by rfl, fun w => by go_simp⟩) ?_
      simp only [pA,pB,pC,Act.put,pD,pE,pF]
      refine wpAny_ready (rs := [4, 8]) (by kernel_rfl) (by simp) ?_
      refine AllReady.cons rfl (fun K hK => ?_) (AllReady.cons rfl (fun K hK => ?_) AllReady.nil)
      . simp only [pA,pB,pC]
        rw [if_pos (by rfl)]
        refine wp_ld 185 (.tmp 39) (by rfl) (by rfl) R1 und53 (by rw [LW.out]; exact sz53) (hK _ _ ?_)
        simp only [pA,pB,pC,Act.put,pD,pE,pF]
        refine wpAny_seq' (k := 8) (by kernel_rfl) (by kernel_rfl) ?_
        simp only [List.drop_succ_cons, List.drop_zero]
        clear hK K
        refine wpList_ld (by rfl) 188 (.tmp 43) (by rfl) (by rfl) R2 und56 (by rw [LR.out]; exact sz56) ?_
        go_wp2_with (first
         | (go_at_call 147; refine (after_n ws rs LW.out LR.out BW BR _ K3 P0.out).mono ?_; rintro e w7 ⟨ws2, rfl, H7⟩
            have H8 : Hid (Hsh w7 g ws rs N2) := H3.out.below H7.out.2 H3.out.lt
            have L8 : Hid (ws2.length = 8) := by rw [H7.out.1]; exact after_length _ _
            obtain ⟨w8, W8⟩ : ∃ w8, w7.setCells g 0 (cs .u32 ws2).toList = w8 := ⟨_, rfl⟩
            have H9 : Hid (Hsh w8 g ws2 rs N2 /\ Oth g w7 w8) := by rw [<- W8]; exact H8.out.setWs L8.out
            have W8' : Hid (w7.setCells g 0 (cs .u32 ws2).toList = w8) := W8
            obtain ⟨w9, W9⟩ : ∃ w9, w8.setCells g 8 (cs .u8 Zb64).toList = w9 := ⟨_, rfl⟩
            have H10 : Hid (Hsh w9 g ws2 Zb64 N2 /\ Oth g w8 w9) := by rw [<- W9]; exact H9.out.1.setRs rfl
            have W9' : Hid (w8.setCells g 8 (cs .u8 Zb64).toList = w9) := W9
            have B10 : Hid (But g wr w9) := O3.out.trans ((But.ofBelow H7.out.2).trans ((But.oth H9.out.2).trans (But.oth H10.out.2)))
            clear W8 W9)
         | (refine wpList_stm (by rfl) (by rfl) 185 (.tmp 47) (.tmp 45) (by rfl) (by rfl) (by rfl) (H8.out.there 0 _ (by rw [L8.out]; omega)) (by rw [L8.out]; exact sz53) W8'.out ?_)
         | (refine wpList_stm (l2 := Zb64) (by rfl) (by rfl) 188 (.tmp 51) (.tmp 49) (by rfl) (by rfl) (by rfl) (H9.out.1.there 8 _ (by decide)) sz56 W9'.out ?_))
        go_roundw
        case rel =>
         refine ⟨j + q, a2, n' - q, k' - q, rfl, nq.out.2, ?_⟩
         have H11 := H10.out.1
         rw [H7.out.1, <- WS.out, <- RS.out] at H11
         exact HW.out.full hj2 HX.out SX.out AX.out HN.out HR.out HQ.out.2.1 HQ.out.1 HZ.out H11 B10.out
        case measure =>
         have := nq.out.1
         simp only [slen]; exact this
      . simp only [pA,pB,pC]
        rw [if_pos (by rfl)]
        refine wp_ld 188 (.tmp 43) (by rfl) (by rfl) R2 und56 (by rw [LR.out]; exact sz56) (hK _ _ ?_)
        simp only [pA,pB,pC,Act.put,pD,pE,pF]
        refine wpAny_ready (rs := [4]) (by kernel_rfl) (by simp) ?_
        refine AllReady.cons rfl (fun K hK => ?_) AllReady.nil
        simp only [pA,pB,pC]
        rw [if_pos (by rfl)]
        refine wp_ld 185 (.tmp 39) (by rfl) (by rfl) R1 und53 (by rw [LW.out]; exact sz53) (hK _ _ ?_)
        simp only [pA,pB,pC,Act.put,pD,pE,pF]
        refine wpAny_seq' (k := 9) (by kernel_rfl) (by kernel_rfl) ?_
        simp only [List.drop_succ_cons, List.drop_zero]
        clear hK K
        go_wp2_with (first
         | (go_at_call 147; refine (after_n ws rs LW.out LR.out BW BR _ K3 P0.out).mono ?_; rintro e w7 ⟨ws2, rfl, H7⟩
            have H8 : Hid (Hsh w7 g ws rs N2) := H3.out.below H7.out.2 H3.out.lt
            have L8 : Hid (ws2.length = 8) := by rw [H7.out.1]; exact after_length _ _
            obtain ⟨w8, W8⟩ : ∃ w8, w7.setCells g 0 (cs .u32 ws2).toList = w8 := ⟨_, rfl⟩
            have H9 : Hid (Hsh w8 g ws2 rs N2 /\ Oth g w7 w8) := by rw [<- W8]; exact H8.out.setWs L8.out
            have W8' : Hid (w7.setCells g 0 (cs .u32 ws2).toList = w8) := W8
            obtain ⟨w9, W9⟩ : ∃ w9, w8.setCells g 8 (cs .u8 Zb64).toList = w9 := ⟨_, rfl⟩
            have H10 : Hid (Hsh w9 g ws2 Zb64 N2 /\ Oth g w8 w9) := by rw [<- W9]; exact H9.out.1.setRs rfl
            have W9' : Hid (w8.setCells g 8 (cs .u8 Zb64).toList = w9) := W9
            have B10 : Hid (But g wr w9) := O3.out.trans ((But.ofBelow H7.out.2).trans ((But.oth H9.out.2).trans (But.oth H10.out.2)))
            clear W8 W9)
         | (refine wpList_stm (by rfl) (by rfl) 185 (.tmp 47) (.tmp 45) (by rfl) (by rfl) (by rfl) (H8.out.there 0 _ (by rw [L8.out]; omega)) (by rw [L8.out]; exact sz53) W8'.out ?_)
         | (refine wpList_stm (l2 := Zb64) (by rfl) (by rfl) 188 (.tmp 51) (.tmp 49) (by rfl) (by rfl) (by rfl) (H9.out.1.there 8 _ (by decide)) sz56 W9'.out ?_))
        go_roundw
        case rel =>
         refine ⟨j + q, a2, n' - q, k' - q, rfl, nq.out.2, ?_⟩
         have H11 := H10.out.1
         rw [H7.out.1, <- WS.out, <- RS.out] at H11
         exact HW.out.full hj2 HX.out SX.out AX.out HN.out HR.out HQ.out.2.1 HQ.out.1 HZ.out H11 B10.out
        case measure =>
         have := nq.out.1
         simp only [slen]; exact this
    . have HZ : Hid (r + q < 64) := hz
      clear hz
      go_wp2_with (refine wpList_sti (by rfl) (by rfl) (.tmp 29) (.tmp 27) (by rfl) (by rfl) (by rfl) c1 f1 ?_; (try rw [e2]); rw [W2.out])
      go_roundw
      case rel =>
       refine ⟨j + q, a2, n' - q, k' - q, rfl, nq.out.2, ?_⟩
       exact HW.out.part hj2 HX.out SX.out AX.out HN.out HR.out HQ.out.2.1 HQ.out.1 HZ.out H2.out ((But.oth O2.out) |> fun h => ((But.refl g wr).drewN 1).trans h)
      case measure =>
       have := nq.out.1
       simp only [slen]; exact this
  . have n0 : n' = 0 := by omega
    subst n0
    go_wp2
    go_end0
    have h1 := HW.out.sl.len
    have h2 : l.drop j = [] := List.eq_nil_of_length_eq_zero h1.symm
    have h3 : l.take j = l := by
     have := List.take_append_drop j l
     rw [h2, List.append_nil] at this
     exact this
    have h4 := HW.out.hs
    rw [h3] at h4
    exact ⟨rfl, h4, HW.out.but⟩
end Go.Proofs.YtfabnnbljkkihaaGreatDoor.Sh
