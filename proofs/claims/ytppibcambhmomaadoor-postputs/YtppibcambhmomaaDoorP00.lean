import Derived.Test.YtppibcambhmomaaDoorPp
import Derived.Test.YtppibcambhmomaaDoorRows
import Derived.WalkKit
import Derived.ProofKit
import Derived.OpenShut
import Derived.Outline
import Derived.Handy
import Derived.Laws.BitsAllLaws
import Derived.Deep.QuietTactic
import Derived.BigQuiet
import Derived.WalkSmall
import Derived.Laws.Tables
import Derived.Laws.CopyOwn
import Derived.SizedLaws
import Derived.ChangeOld
import Derived.Below
import Derived.Lib.SmallJoins
import Derived.Deep.CutBlock
import Derived.Deep.DeepCutAuto
namespace Go.Proofs.YtppibcambhmomaaDoor
set_option maxRecDepth 20000
open Go.ChangeShapes Go.WideShapes Go.ChangeAt Go.RowKit
set_option linter.unusedVariables false
set_option linter.unusedSimpArgs false
def Row (w : World) (b off : Nat) (l : List Nat) : Prop := ∀ i, i < l.length -> w.cell? ⟨b, off + i, none⟩ = some (.int .u8 (l.getD i 0 : Nat))
theorem getD_lt {l : List Nat} (h : ∀ x ∈ l, x < 256) (i : Nat) : l.getD i 0 < 256 := by
 by_cases hi : i < l.length
 . have e : l.getD i 0 = l[i] := by simp [List.getD, hi]
   rw [e]; exact h _ (List.getElem_mem hi)
 . have e : l.getD i 0 = 0 := by simp [List.getD, Nat.le_of_not_lt hi]
   omega
theorem cell_drewN (w : World) (n : Nat) (a : Addr) : (w.drewN n).cell? a = w.cell? a := by simp [go_sem]
def bv (x : Nat) : Value := .int .u8 (x : Int)
def Blk (w : World) (g : Nat) (l : List Nat) : Prop := w.heap[g]? = some (.cells (l.map bv).toArray 5 (0, 0))
structure Oth (g : Nat) (w w' : World) : Prop where
 os : w'.os = w.os
 tape : w'.tape = w.tape
 output : w'.output = w.output
 size : w'.heap.size = w.heap.size
 block : ∀ k, k ≠ g -> w'.heap[k]? = w.heap[k]?
theorem Oth.refl (g : Nat) (w : World) : Oth g w w := ⟨rfl, rfl, rfl, rfl, fun _ _ => rfl⟩
theorem Blk.cell {w : World} {g : Nat} {l : List Nat} (h : Blk w g l) {i : Nat} (hi : i < l.length) : w.cell? ⟨g, i, none⟩ = some (.int .u8 (l.getD i 0 : Nat)) := by
 unfold Blk at h
 simp [World.cell?, h, hi, bv]
theorem Blk.lt {w : World} {g : Nat} {l : List Nat} (h : Blk w g l) : g < w.heap.size := (gl h)
theorem Blk.row {w : World} {g : Nat} {l : List Nat} (h : Blk w g l) : Row w g 0 l := fun i hi => by rw [Nat.zero_add]; exact h.cell hi
def Sli (w : World) (a : Option Addr) (l : List Nat) : Prop := (∀ x ∈ l, x < 256) /\ l.length <= 140737488352256 /\ (l = [] ∨ ∃ b off, a = some ⟨b, off, none⟩ /\ b < w.heap.size /\ Row w b off l)
theorem Sli.below {w w' : World} {a : Option Addr} {l : List Nat} (h : Sli w a l) (hb : Below w.heap.size w w') : Sli w' a l := by
 refine ⟨h.1, h.2.1, ?_⟩
 rcases h.2.2 with h0 | ⟨b, off, rfl, hl, hr⟩
 . exact .inl h0
 . exact .inr ⟨b, off, rfl, Nat.lt_of_lt_of_le hl hb.size, fun i hi => (hb.cell (p := ⟨b, off + i, none⟩) hl).trans (hr i hi)⟩
theorem Blk.sli {w : World} {g : Nat} {l : List Nat} (h : Blk w g l) (h1 : ∀ x ∈ l, x < 256) (h2 : l.length <= 140737488352256) : Sli w (some ⟨g, 0, none⟩) l :=
 ⟨h1, h2, .inr ⟨g, 0, rfl, h.lt, h.row⟩⟩
def spell (l : List Nat) : ByteArray := (l.map fun x : Nat => (x : Int)).foldl (fun r n => r.push (UInt8.ofNat n.toNat)) ByteArray.empty
def ext (l : List Nat) (n : Nat) : List Nat := l ++ List.replicate (n - l.length) 0
theorem info5 : (Tryd.prog.info? 5).map (fun i => (i.zero, i.size, i.bytes)) = some (some (.int .u8 0), 1, 1) := by kernel_rfl
structure Sln (w : World) (a : Option Addr) (n : Nat) (l : List Nat) : Prop where
 len : n = l.length
 sli : Sli w a l
theorem Sln.below {w w' : World} {a : Option Addr} {n : Nat} {l : List Nat} (h : Sln w a n l) (hb : Below w.heap.size w w') : Sln w' a n l := ⟨h.len, h.sli.below hb⟩
theorem Sln.drewN {w : World} {a : Option Addr} {n : Nat} {l : List Nat} (h : Sln w a n l) (k : Nat) : Sln (w.drewN k) a n l := h.below (below_drewN (Below.refl _ _) k)
theorem Sln.lt {w : World} {a : Option Addr} {n : Nat} {l : List Nat} (h : Sln w a n l) : ∀ x ∈ l, x < 256 := h.sli.1
theorem Blk.sln {w : World} {g : Nat} {l : List Nat} (h : Blk w g l) (h1 : ∀ x ∈ l, x < 256) (h2 : l.length <= 140737488352256) : Sln w (some ⟨g, 0, none⟩) l.length l := ⟨rfl, h.sli h1 h2⟩
theorem conv_n {a : Option Addr} {n k : Nat} {l : List Nat} {w : World} (h : Hid (Sln w a n l)) : (convert 27 9 (.slice a n k)).run Tryd.prog w = .ok (.string (spell l)) w := by
 rw [run_convert_bytes_string w 27 9 5 a n k Tryd.underlying27 Tryd.underlying5 Tryd.underlying9]
 have e := h.out.len
 by_cases g : l = []
 . subst g
   have e0 : n = 0 := e
   subst e0
   cases a with
   | none => simp [Conv.bytesToString, spell, Sem.run_pure]
   | some a =>
     have hl : (loadCells a 0).run Tryd.prog w = .ok (([] : List Int).map (Value.int .u8)).toArray w := by simpa using run_loadCells_list (P := Tryd.prog) w a [] (by simp)
     exact run_bytesToString w a 0 k [] hl
 . obtain ⟨b, off, rfl, _, r⟩ := h.out.sli.2.2.resolve_left g
   have hl : (loadCells ⟨b, off, none⟩ n).run Tryd.prog w = .ok ((l.map fun x : Nat => (x : Int)).map (Value.int .u8)).toArray w := by
    have h0 := run_loadCells_list (P := Tryd.prog) w ⟨b, off, none⟩ ((l.map fun x : Nat => (x : Int)).map (Value.int .u8)) (fun j v hv => by
     simp at hv
     obtain ⟨x, hx, rfl⟩ := hv
     obtain ⟨hj, _⟩ := List.getElem?_eq_some_iff.1 hx
     have h4 := r j hj
     have h5 : l.getD j 0 = x := by simp [hx]
     rw [h5] at h4
     rw [show (⟨b, off, none⟩ : Addr).add j = ⟨b, off + j, none⟩ from by simp [Addr.add]]
     exact h4)
    have e3 : ((l.map fun x : Nat => (x : Int)).map (Value.int .u8)).length = n := by simp [e]
    rw [e3] at h0
    exact h0
   exact run_bytesToString w ⟨b, off, none⟩ n k _ hl
theorem bytes5 : Tryd.prog.bytesOf 5 = 1 := by kernel_rfl
theorem cells5 : Tryd.prog.cellsOf 5 = 1 := by kernel_rfl
theorem cell_lt {w : World} {b off : Nat} {v : Value} (h : w.cell? ⟨b, off, none⟩ = some v) : b < w.heap.size := by
 unfold World.cell? at h
 rcases hb : w.heap[b]? with _ | o
 . simp [hb] at h
 . exact (gl hb)
theorem open_bytes {H : Type} {enc : TypeId × Value -> H} {W : World} {fuel : Nat} {v : Value} {y : DataW H × List MemPlace} (hf : DataW.trod enc Tryd.prog W 0 (fun _ => true) true fuel 27 [v] = some y) (hsz : ∀ n ∈ y.1.weights Tryd.prog 27, n <= reachBytes) :
  ∃ a n k l, v = .slice a n k /\ Hid (Sln W a n l) /\ n <= k /\ k <= 140737488351232 := by
 rcases open_ints Tryd.underlying27 Tryd.underlying5 cells5 hf with ⟨hcs, _⟩ | ⟨x, n, k, zs, hcs, _, hl, _, hz, hx, hcell, hwz⟩
 . simp at hcs
   exact ⟨none, 0, 0, [], hcs, ⟨rfl, by simp, by simp, .inl rfl⟩, by omega, by omega⟩
 . simp at hcs
   have hz : zs.length = k := by simpa using hz
   have hk : k <= 140737488351232 := by
    have h := hsz ((lits (H := H) .u8 (zs.take n)).length + (lits (H := H) .u8 (zs.drop n)).length) (by
     rw [hx]; simp only [DataW.weights, Tryd.underlying27, bytes5]; simp)
    simp only [lits, List.length_map, List.length_take, List.length_drop, reachBytes] at h
    omega
   refine ⟨some x, n, k, (zs.take n).map Int.toNat, hcs, ⟨by simp; omega, ?_, by simp; omega, ?_⟩, hl, hk⟩
   . intro z hzm
     obtain ⟨q, hq, rfl⟩ := List.mem_map.1 hzm
     have := bounds_u8 (hwz q (List.mem_of_mem_take hq))
     omega
   . by_cases h0 : n = 0
     . subst h0; exact .inl (by simp)
     . right
       obtain ⟨b, off, spot⟩ := x
       have hc := hcell 0 (by omega)
       have hspot : spot = none := by simpa [Addr.add] using World.cell?_spot hc
       subst hspot
       refine ⟨b, off, rfl, cell_lt (by simpa [Addr.add] using hc), fun i hi => ?_⟩
       have hi2 : i < n := by simp at hi; omega
       have h1 := hcell i (by omega)
       have h2 : (⟨b, off, none⟩ : Addr).add i = ⟨b, off + i, none⟩ := by simp [Addr.add]
       rw [h2] at h1
       rw [h1]
       have h3 : i < zs.length := by omega
       have h4 : zs.getD i 0 = zs[i] := by simp [List.getD, h3]
       have h5 : ((zs.take n).map Int.toNat).getD i 0 = (zs[i]).toNat := by simp [List.getD, h3, hi2]
       have h6 := bounds_u8 (hwz zs[i] (List.getElem_mem h3))
       rw [h4, h5, Int.toNat_of_nonneg h6.1]
def marks : List Nat := [201, 202, 203, 204, 205, 206]
theorem map_cells {w : World} {b off : Nat} {l : List Nat} (r : Row w b off l) : ∀ j u, (l.map bv)[j]? = some u -> w.cell? ((⟨b, off, none⟩ : Addr).add j) = some u := by
 intro j v hv
 simp at hv
 obtain ⟨x, hx, rfl⟩ := hv
 obtain ⟨hj, _⟩ := List.getElem?_eq_some_iff.1 hx
 have h4 := r j hj
 have h5 : l.getD j 0 = x := by simp [hx]
 rw [h5] at h4
 rw [show (⟨b, off, none⟩ : Addr).add j = ⟨b, off + j, none⟩ from by simp [Addr.add]]
 exact h4
theorem map_one (l : List Nat) : ∀ u ∈ l.map bv, u.oneCell' = true := by
 intro v hv
 obtain ⟨x, _, rfl⟩ := List.mem_map.1 hv
 rfl
theorem app_fits {w : World} {base g k cap : Nat} {xs : List Value} {a : Option Addr} {n c : Nat} {l : List Nat} (hown : w.ownsRow base 5 1 (.slice (some ⟨g, 0, none⟩) k cap) k xs) (h : Sln w a n l) (hc : a = none -> c = 0) (hroom : k + n <= cap) :
  ∃ w', (Builtin.append_ #[27, 27] 27 #[.slice (some ⟨g, 0, none⟩) k cap,.slice a n c]).run Tryd.prog w = .ok (.slice (some ⟨g, 0, none⟩) (k + n) cap) w' /\ w'.ownsRow base 5 1 (.slice (some ⟨g, 0, none⟩) (k + n) cap) (k + n) (xs ++ l.map bv) /\ w.grownBy w' (some g) := by
 obtain ⟨i, hi, hz0, hz1, hz2⟩ := info_parts info5
 have e := h.len
 by_cases hl : l = []
 . subst hl
   have e0 : n = 0 := e
   subst e0
   cases a with
   | none =>
     have c0 := hc rfl
     subst c0
     exact ⟨w, run_append_owned_none (P := Tryd.prog) w base 27 27 5 i 1 Tryd.underlying27 hi _ k xs hown, by simpa using hown, World.grownBy.refl _ _⟩
   | some ad => exact run_append_fits (P := Tryd.prog) w base 27 27 5 i 1 Tryd.underlying27 hi hz1 g k cap xs hown ad 0 c [] rfl (by simp) (by simp) hroom
 . obtain ⟨b, off, rfl, _, r⟩ := h.sli.2.2.resolve_left hl
   exact run_append_fits (P := Tryd.prog) w base 27 27 5 i 1 Tryd.underlying27 hi hz1 g k cap xs hown ⟨b, off, none⟩ n c (l.map bv) (by simp [e]) (map_cells r) (map_one l) hroom
theorem own_full {w : World} {base g n : Nat} {l : List Nat} (h : w.ownsRow base 5 1 (.slice (some ⟨g, 0, none⟩) n n) n (l.map bv)) : Blk w g l := by
 rcases h.2 with ⟨h1, _⟩ | ⟨g', cap, cur, h1, _, hg, _, _, hs, ht⟩
 . simp at h1
 . simp only [Value.slice.injEq, Option.some.injEq, Addr.mk.injEq, and_true, true_and] at h1
   obtain ⟨rfl, rfl⟩ := h1
   have e : cur = (l.map bv).toArray := by
    have h2 : cur.toList.take (n * 1) = cur.toList := by rw [List.take_of_length_le (by simp [hs])]
    rw [h2] at ht
    rw [<- ht]
   rw [e] at hg
   exact hg
theorem wpList_app {ops : Array Oper} {rest : List Oper} {o : Oper} {a : Act} {Q : Exit -> Act -> World -> Prop} {w w' : World} {v v1 v2 : Value} (hgd : o.guard = none) (s x : Operand)
  (ho : o.op = .call { callee := .builtin .append, args := #[s, x], argTypes := #[27, 27] }) (hty : o.type = 27) (hs : a.eval s = v1) (hx : a.eval x = v2) (hrun : Hid ((Builtin.append_ #[27, 27] 27 #[v1, v2]).run Tryd.prog w = .ok v w'))
  (h : wpList Tryd.prog ops Q rest (a.put o.dst v) w') : wpList Tryd.prog ops Q (o :: rest) a w := by
 refine wpList_plain hgd fun K hK => ?_
 have hr := hrun.out
 unfold Oper.wp
 simp [execOp, ho, resolve, invoke, builtin, hs, hx, hty, hr, Result.andThen]
 exact hK _ _ h
theorem own_sln {w : World} {B g k cap : Nat} {l : List Nat} (own : w.ownsRow B 5 1 (.slice (some ⟨g, 0, none⟩) k cap) k (l.map bv)) (h1 : ∀ x ∈ l, x < 256) (h2 : l.length <= 140737488352256) : Sln w (some ⟨g, 0, none⟩) k l := by
 have hk : k = l.length := by have := own.1; simp at this; omega
 refine ⟨hk, h1, h2, .inr ⟨g, 0, rfl, (own.lt g rfl).2, fun i hi => ?_⟩⟩
 have h3 := own.cells (g := g) rfl i (bv (l.getD i 0)) (by
  rw [List.getElem?_map, List.getElem?_eq_getElem hi]
  simp [List.getD, hi])
 have h4 : (⟨g, 0, none⟩ : Addr).add i = ⟨g, 0 + i, none⟩ := by
  by_cases hi0 : i = 0
  . subst hi0; simp [Addr.add]
  . simp [Addr.add, hi0]
 rw [h4] at h3
 exact h3
theorem take_succ_getD {l : List Nat} {k : Nat} (h : k < l.length) : l.take (k + 1) = l.take k ++ [l.getD k 0] := by
 rw [List.take_succ_eq_append_getElem h]
 simp [List.getD, h]
theorem row_at {w : World} {a : Option Addr} {n : Nat} {l : List Nat} (h : Sln w a n l) {i : Nat} (hi : i < n) : ∃ b off, a = some ⟨b, off, none⟩ /\ w.cell? ⟨b, off + i, none⟩ = some (.int .u8 (l.getD i 0 : Nat)) := by
 have e := h.len
 have hne : l ≠ [] := by intro h0; rw [h0] at e; simp at e; omega
 obtain ⟨b, off, h1, _, r⟩ := h.sli.2.2.resolve_left hne
 exact ⟨b, off, h1, r i (by omega)⟩
end Go.Proofs.YtppibcambhmomaaDoor
namespace Go.Proofs.YtppibcambhmomaaDoor
open Go.ChangeShapes Go.WideShapes Go.ChangeAt Go.RowKit
set_option maxRecDepth 20000
set_option linter.unusedVariables false
set_option linter.unusedSimpArgs false
def sb (s : ByteArray) (i : Nat) : Nat := (s.data.toList.getD i 0).toNat
theorem sb_ix (s : ByteArray) (i : Nat) (z : Int) (hz : z = (i : Int)) (h : i < s.size) (w : World) : (Instr.index 9 (.string s) (.int .i64 z)).run Tryd.prog w = .ok (.int .u8 (sb s i : Nat)) w := by
 subst hz
 rw [run_index_string w _ _ _ _ Tryd.underlying9, dif_pos ⟨by omega, by omega⟩]
 have e : (s[((i : Int)).toNat]'(by simpa using h)).toNat = sb s i := by
  have h3 : i < s.data.size := h
  have e2 : s.data.toList.getD i 0 = s.data[i] := by
   rw [List.getD, Array.getElem?_toList, Array.getElem?_eq_getElem h3]
   rfl
  unfold sb
  rw [e2]
  rfl
 rw [e]
def nmE (c : Nat) : Bool := decide ((97 <= c /\ c <= 122) ∨ (48 <= c /\ c <= 57))
def nmB (c : Nat) : Bool := decide (((97 <= c /\ c <= 122) ∨ (48 <= c /\ c <= 57)) ∨ c = 45 ∨ c = 46)
def kyB (c : Nat) : Bool := decide (32 <= c /\ c <= 126)
def dgB (c : Nat) : Bool := decide ((48 <= c /\ c <= 57) ∨ (97 <= c /\ c <= 102))
def evB (p : Nat -> Bool) (s : ByteArray) (i : Nat) : Bool := (List.range i).all (fun j => p (sb s j))
theorem evB_zero (p : Nat -> Bool) (s : ByteArray) : evB p s 0 = true := rfl
theorem evB_succ (p : Nat -> Bool) (s : ByteArray) (i : Nat) : evB p s (i + 1) = (evB p s i && p (sb s i)) := by simp [evB, List.range_succ]
theorem evB_iff (p : Nat -> Bool) (s : ByteArray) (i : Nat) : evB p s i = true ↔ ∀ j, j < i -> p (sb s j) = true := by simp [evB]
theorem evB_false {p : Nat -> Bool} {s : ByteArray} {i n : Nat} (hi : i < n) (h : p (sb s i) = false) : evB p s n = false := by
 rw [Bool.eq_false_iff]
 intro e
 have := (evB_iff p s n).1 e i hi
 rw [h] at this
 cases this
theorem isEnd_n (c : Nat) (w : World) : Calls Tryd.prog 91 #[.int .u8 (c : Int)] w fun e w' => e = .returned (.bool (nmE c)) /\ w' = w := by
 by_cases h2 : (97 : Int) <= (c : Int)
 . skip
   by_cases h4 : (c : Int) <= 122
   . skip
     have EV : Hid (nmE c = true) := decide_eq_true (by omega)
     rw [EV.out]
     go_enter Tryd.func91, Tryd.ntmps91
     go_wp2
     go_ret
     exact ⟨rfl, rfl⟩
   . skip
     by_cases h6 : (48 : Int) <= (c : Int)
     . skip
       by_cases h8 : (c : Int) <= 57
       . skip
         have EV : Hid (nmE c = true) := decide_eq_true (by omega)
         rw [EV.out]
         go_enter Tryd.func91, Tryd.ntmps91
         go_wp2
         go_ret
         exact ⟨rfl, rfl⟩
       . skip
         have EV : Hid (nmE c = false) := decide_eq_false (by omega)
         rw [EV.out]
         go_enter Tryd.func91, Tryd.ntmps91
         go_wp2
         go_ret
         exact ⟨rfl, rfl⟩
     . skip
       have EV : Hid (nmE c = false) := decide_eq_false (by omega)
       rw [EV.out]
       go_enter Tryd.func91, Tryd.ntmps91
       go_wp2
       go_ret
       exact ⟨rfl, rfl⟩
 . skip
   by_cases h4 : (48 : Int) <= (c : Int)
   . skip
     by_cases h6 : (c : Int) <= 57
     . skip
       have EV : Hid (nmE c = true) := decide_eq_true (by omega)
       rw [EV.out]
       go_enter Tryd.func91, Tryd.ntmps91
       go_wp2
       go_ret
       exact ⟨rfl, rfl⟩
     . skip
       have EV : Hid (nmE c = false) := decide_eq_false (by omega)
       rw [EV.out]
       go_enter Tryd.func91, Tryd.ntmps91
       go_wp2
       go_ret
       exact ⟨rfl, rfl⟩
   . skip
     have EV : Hid (nmE c = false) := decide_eq_false (by omega)
     rw [EV.out]
     go_enter Tryd.func91, Tryd.ntmps91
     go_wp2
     go_ret
     exact ⟨rfl, rfl⟩
theorem isName_n (c : Nat) (w : World) : Calls Tryd.prog 90 #[.int .u8 (c : Int)] w fun e w' => e = .returned (.bool (nmB c)) /\ w' = w := by
 rcases Bool.eq_false_or_eq_true (nmE c) with hE | hE
 . have EE : Hid (nmE c = true) := hE
   have EV : Hid (nmB c = true) := decide_eq_true (.inl (of_decide_eq_true hE))
   clear hE
   rw [EV.out]
   go_enter Tryd.func90, Tryd.ntmps90
   go_wp2_with (go_at_call 91; refine (isEnd_n c _).mono ?_; rintro e w0 ⟨rfl, h0⟩; rw [h0, EE.out]; clear h0)
   go_ret
   exact ⟨rfl, rfl⟩
 . have EE : Hid (nmE c = false) := hE
   have hq : ¬ ((97 <= c /\ c <= 122) ∨ (48 <= c /\ c <= 57)) := of_decide_eq_false hE
   clear hE
   by_cases h4 : c = 45
   . subst h4
     have EV : Hid (nmB 45 = true) := decide_eq_true (by omega)
     rw [EV.out]
     clear hq
     go_enter Tryd.func90, Tryd.ntmps90
     go_wp2_with (go_at_call 91; refine (isEnd_n 45 _).mono ?_; rintro e w0 ⟨rfl, h0⟩; rw [h0, EE.out]; clear h0)
     go_ret
     exact ⟨rfl, rfl⟩
   . by_cases h6 : c = 46
     . subst h6
       have EV : Hid (nmB 46 = true) := decide_eq_true (by omega)
       rw [EV.out]
       clear hq h4
       go_enter Tryd.func90, Tryd.ntmps90
       go_wp2_with (go_at_call 91; refine (isEnd_n 46 _).mono ?_; rintro e w0 ⟨rfl, h0⟩; rw [h0, EE.out]; clear h0)
       go_ret
       exact ⟨rfl, rfl⟩
     . have EV : Hid (nmB c = false) := decide_eq_false (by omega)
       have j4 : ¬ ((c : Int) = 45) := by omega
       have j6 : ¬ ((c : Int) = 46) := by omega
       rw [EV.out]
       clear hq h4 h6
       go_enter Tryd.func90, Tryd.ntmps90
       go_wp2_with (go_at_call 91; refine (isEnd_n c _).mono ?_; rintro e w0 ⟨rfl, h0⟩; rw [h0, EE.out]; clear h0)
       go_ret
       refine ⟨?_, rfl⟩
       simp [j4, j6]
theorem isKey_n (c : Nat) (w : World) : Calls Tryd.prog 92 #[.int .u8 (c : Int)] w fun e w' => e = .returned (.bool (kyB c)) /\ w' = w := by
 by_cases h2 : (32 : Int) <= (c : Int)
 . skip
   by_cases h4 : (c : Int) <= 126
   . skip
     have EV : Hid (kyB c = true) := decide_eq_true (by omega)
     rw [EV.out]
     go_enter Tryd.func92, Tryd.ntmps92
     go_wp2
     go_ret
     exact ⟨rfl, rfl⟩
   . skip
     have EV : Hid (kyB c = false) := decide_eq_false (by omega)
     rw [EV.out]
     go_enter Tryd.func92, Tryd.ntmps92
     go_wp2
     go_ret
     exact ⟨rfl, rfl⟩
 . skip
   have EV : Hid (kyB c = false) := decide_eq_false (by omega)
   rw [EV.out]
   go_enter Tryd.func92, Tryd.ntmps92
   go_wp2
   go_ret
   exact ⟨rfl, rfl⟩
theorem isDig_n (c : Nat) (w : World) : Calls Tryd.prog 98 #[.int .u8 (c : Int)] w fun e w' => e = .returned (.bool (dgB c)) /\ w' = w := by
 by_cases h2 : (48 : Int) <= (c : Int)
 . skip
   by_cases h4 : (c : Int) <= 57
   . skip
     have EV : Hid (dgB c = true) := decide_eq_true (by omega)
     rw [EV.out]
     go_enter Tryd.func98, Tryd.ntmps98
     go_wp2
     go_ret
     exact ⟨rfl, rfl⟩
   . skip
     by_cases h6 : (97 : Int) <= (c : Int)
     . skip
       by_cases h8 : (c : Int) <= 102
       . skip
         have EV : Hid (dgB c = true) := decide_eq_true (by omega)
         rw [EV.out]
         go_enter Tryd.func98, Tryd.ntmps98
         go_wp2
         go_ret
         exact ⟨rfl, rfl⟩
       . skip
         have EV : Hid (dgB c = false) := decide_eq_false (by omega)
         rw [EV.out]
         go_enter Tryd.func98, Tryd.ntmps98
         go_wp2
         go_ret
         exact ⟨rfl, rfl⟩
     . skip
       have EV : Hid (dgB c = false) := decide_eq_false (by omega)
       rw [EV.out]
       go_enter Tryd.func98, Tryd.ntmps98
       go_wp2
       go_ret
       exact ⟨rfl, rfl⟩
 . skip
   by_cases h4 : (97 : Int) <= (c : Int)
   . skip
     by_cases h6 : (c : Int) <= 102
     . skip
       have EV : Hid (dgB c = true) := decide_eq_true (by omega)
       rw [EV.out]
       go_enter Tryd.func98, Tryd.ntmps98
       go_wp2
       go_ret
       exact ⟨rfl, rfl⟩
     . skip
       have EV : Hid (dgB c = false) := decide_eq_false (by omega)
       rw [EV.out]
       go_enter Tryd.func98, Tryd.ntmps98
       go_wp2
       go_ret
       exact ⟨rfl, rfl⟩
   . skip
     have EV : Hid (dgB c = false) := decide_eq_false (by omega)
     rw [EV.out]
     go_enter Tryd.func98, Tryd.ntmps98
     go_wp2
     go_ret
     exact ⟨rfl, rfl⟩
theorem plain_n (c : Nat) (w : World) : Calls Tryd.prog 72 #[.int .u8 (c : Int)] w fun e w' => e = .returned (.bool (nmE c)) /\ w' = w := by
 by_cases h2 : (97 : Int) <= (c : Int)
 . skip
   by_cases h4 : (c : Int) <= 122
   . skip
     have EV : Hid (nmE c = true) := decide_eq_true (by omega)
     rw [EV.out]
     go_enter Tryd.func72, Tryd.ntmps72
     go_wp2
     go_ret
     exact ⟨rfl, rfl⟩
   . skip
     by_cases h6 : (48 : Int) <= (c : Int)
     . skip
       by_cases h8 : (c : Int) <= 57
       . skip
         have EV : Hid (nmE c = true) := decide_eq_true (by omega)
         rw [EV.out]
         go_enter Tryd.func72, Tryd.ntmps72
         go_wp2
         go_ret
         exact ⟨rfl, rfl⟩
       . skip
         have EV : Hid (nmE c = false) := decide_eq_false (by omega)
         rw [EV.out]
         go_enter Tryd.func72, Tryd.ntmps72
         go_wp2
         go_ret
         exact ⟨rfl, rfl⟩
     . skip
       have EV : Hid (nmE c = false) := decide_eq_false (by omega)
       rw [EV.out]
       go_enter Tryd.func72, Tryd.ntmps72
       go_wp2
       go_ret
       exact ⟨rfl, rfl⟩
 . skip
   by_cases h4 : (48 : Int) <= (c : Int)
   . skip
     by_cases h6 : (c : Int) <= 57
     . skip
       have EV : Hid (nmE c = true) := decide_eq_true (by omega)
       rw [EV.out]
       go_enter Tryd.func72, Tryd.ntmps72
       go_wp2
       go_ret
       exact ⟨rfl, rfl⟩
     . skip
       have EV : Hid (nmE c = false) := decide_eq_false (by omega)
       rw [EV.out]
       go_enter Tryd.func72, Tryd.ntmps72
       go_wp2
       go_ret
       exact ⟨rfl, rfl⟩
   . skip
     have EV : Hid (nmE c = false) := decide_eq_false (by omega)
     rw [EV.out]
     go_enter Tryd.func72, Tryd.ntmps72
     go_wp2
     go_ret
     exact ⟨rfl, rfl⟩
theorem everyName_n (s : ByteArray) (hs : s.size <= 281474976710656) (w : World) : Calls Tryd.prog 89 #[.string s, .func (.func 90) #[] #[]] w fun e w' => e = .returned (.bool (evB nmB s s.size)) /\ w' = w := by
 obtain ⟨n, Hn⟩ := nm (s.size)
 rw [Hn.out] at hs
 go_enter Tryd.func89, Tryd.ntmps89
 go_wp2
 rw [Hn.out]
 go_loop [8] (fun ti => ∃ i : Nat, i <= n /\ ti = .int .i64 (i : Int) /\ Hid (evB nmB s i = true)) (fun ti => n - (intOf ti).toNat)
 case atStart => exact ⟨0, by omega, rfl, evB_zero _ _⟩
 case round =>
  obtain ⟨i, hi, rfl, HI⟩ := hrel
  by_cases hlt : i < n
  . have i1 : (i : Int) < (n : Int) := by omega
    obtain ⟨c, Hc⟩ := nm (sb s i)
    have ix : ∀ w, (Instr.index 9 (.string s) (.int .i64 (i : Int))).run Tryd.prog w = .ok (.int .u8 (c : Int)) w := fun w => by rw [<- Hc.out]; exact sb_ix s i _ rfl (by rw [Hn.out]; exact hlt) w
    rcases Bool.eq_false_or_eq_true (nmB c) with hp | hp
    . have HP : Hid (nmB c = true) := hp
      clear hp
      go_wp2_with (go_at_call 90; refine (isName_n c _).mono ?_; rintro e w0 ⟨rfl, h0⟩; rw [h0, HP.out]; clear h0)
      go_round
      case rel => exact ⟨i + 1, by omega, by go_num, by rw [evB_succ, HI.out, Hc.out, HP.out]; rfl⟩
      case measure => simp [intOf]; omega
    . have HP : Hid (nmB c = false) := hp
      have FF : Hid (evB nmB s n = false) := evB_false hlt (by rw [Hc.out]; exact HP.out)
      clear hp
      go_wp2_with (go_at_call 90; refine (isName_n c _).mono ?_; rintro e w0 ⟨rfl, h0⟩; rw [h0, HP.out]; clear h0)
      go_ret
      rw [Hn.out, FF.out]
      exact ⟨rfl, rfl⟩
  . obtain rfl : i = n := by omega
    go_wp2
    go_ret
    rw [Hn.out, HI.out]
    exact ⟨rfl, rfl⟩
theorem everyKey_n (s : ByteArray) (hs : s.size <= 281474976710656) (w : World) : Calls Tryd.prog 89 #[.string s, .func (.func 92) #[] #[]] w fun e w' => e = .returned (.bool (evB kyB s s.size)) /\ w' = w := by
 obtain ⟨n, Hn⟩ := nm (s.size)
 rw [Hn.out] at hs
 go_enter Tryd.func89, Tryd.ntmps89
 go_wp2
 rw [Hn.out]
 go_loop [8] (fun ti => ∃ i : Nat, i <= n /\ ti = .int .i64 (i : Int) /\ Hid (evB kyB s i = true)) (fun ti => n - (intOf ti).toNat)
 case atStart => exact ⟨0, by omega, rfl, evB_zero _ _⟩
 case round =>
  obtain ⟨i, hi, rfl, HI⟩ := hrel
  by_cases hlt : i < n
  . have i1 : (i : Int) < (n : Int) := by omega
    obtain ⟨c, Hc⟩ := nm (sb s i)
    have ix : ∀ w, (Instr.index 9 (.string s) (.int .i64 (i : Int))).run Tryd.prog w = .ok (.int .u8 (c : Int)) w := fun w => by rw [<- Hc.out]; exact sb_ix s i _ rfl (by rw [Hn.out]; exact hlt) w
    rcases Bool.eq_false_or_eq_true (kyB c) with hp | hp
    . have HP : Hid (kyB c = true) := hp
      clear hp
      go_wp2_with (go_at_call 92; refine (isKey_n c _).mono ?_; rintro e w0 ⟨rfl, h0⟩; rw [h0, HP.out]; clear h0)
      go_round
      case rel => exact ⟨i + 1, by omega, by go_num, by rw [evB_succ, HI.out, Hc.out, HP.out]; rfl⟩
      case measure => simp [intOf]; omega
    . have HP : Hid (kyB c = false) := hp
      have FF : Hid (evB kyB s n = false) := evB_false hlt (by rw [Hc.out]; exact HP.out)
      clear hp
      go_wp2_with (go_at_call 92; refine (isKey_n c _).mono ?_; rintro e w0 ⟨rfl, h0⟩; rw [h0, HP.out]; clear h0)
      go_ret
      rw [Hn.out, FF.out]
      exact ⟨rfl, rfl⟩
  . obtain rfl : i = n := by omega
    go_wp2
    go_ret
    rw [Hn.out, HI.out]
    exact ⟨rfl, rfl⟩
theorem everyDig_n (s : ByteArray) (hs : s.size <= 281474976710656) (w : World) : Calls Tryd.prog 89 #[.string s, .func (.func 98) #[] #[]] w fun e w' => e = .returned (.bool (evB dgB s s.size)) /\ w' = w := by
 obtain ⟨n, Hn⟩ := nm (s.size)
 rw [Hn.out] at hs
 go_enter Tryd.func89, Tryd.ntmps89
 go_wp2
 rw [Hn.out]
 go_loop [8] (fun ti => ∃ i : Nat, i <= n /\ ti = .int .i64 (i : Int) /\ Hid (evB dgB s i = true)) (fun ti => n - (intOf ti).toNat)
 case atStart => exact ⟨0, by omega, rfl, evB_zero _ _⟩
 case round =>
  obtain ⟨i, hi, rfl, HI⟩ := hrel
  by_cases hlt : i < n
  . have i1 : (i : Int) < (n : Int) := by omega
    obtain ⟨c, Hc⟩ := nm (sb s i)
    have ix : ∀ w, (Instr.index 9 (.string s) (.int .i64 (i : Int))).run Tryd.prog w = .ok (.int .u8 (c : Int)) w := fun w => by rw [<- Hc.out]; exact sb_ix s i _ rfl (by rw [Hn.out]; exact hlt) w
    rcases Bool.eq_false_or_eq_true (dgB c) with hp | hp
    . have HP : Hid (dgB c = true) := hp
      clear hp
      go_wp2_with (go_at_call 98; refine (isDig_n c _).mono ?_; rintro e w0 ⟨rfl, h0⟩; rw [h0, HP.out]; clear h0)
      go_round
      case rel => exact ⟨i + 1, by omega, by go_num, by rw [evB_succ, HI.out, Hc.out, HP.out]; rfl⟩
      case measure => simp [intOf]; omega
    . have HP : Hid (dgB c = false) := hp
      have FF : Hid (evB dgB s n = false) := evB_false hlt (by rw [Hc.out]; exact HP.out)
      clear hp
      go_wp2_with (go_at_call 98; refine (isDig_n c _).mono ?_; rintro e w0 ⟨rfl, h0⟩; rw [h0, HP.out]; clear h0)
      go_ret
      rw [Hn.out, FF.out]
      exact ⟨rfl, rfl⟩
  . obtain rfl : i = n := by omega
    go_wp2
    go_ret
    rw [Hn.out, HI.out]
    exact ⟨rfl, rfl⟩
def gdN (s : ByteArray) : Bool := decide (3 <= s.size /\ s.size <= 63) && (evB nmB s s.size && (nmE (sb s 0) && nmE (sb s (s.size - 1))))
def gdK (s : ByteArray) : Bool := decide (1 <= s.size /\ s.size <= 200) && evB kyB s s.size
def tmT (n : Int) : Bool := decide (0 <= n /\ n <= 1099511627776)
def gdI (a b c : Int) : Bool := decide (0 <= a /\ a < 16) && (tmT b && tmT c)
theorem isTime_n (n : Int) (w : World) : Calls Tryd.prog 53 #[.int .i64 n] w fun e w' => e = .returned (.bool (tmT n)) /\ w' = w := by
 by_cases h1 : 0 <= n
 . by_cases h2 : n <= 1099511627776
   . have EV : Hid (tmT n = true) := decide_eq_true ⟨h1, h2⟩
     rw [EV.out]
     go_enter Tryd.func53, Tryd.ntmps53
     go_wp2
     go_ret
     exact ⟨rfl, rfl⟩
   . have EV : Hid (tmT n = false) := decide_eq_false (by omega)
     rw [EV.out]
     go_enter Tryd.func53, Tryd.ntmps53
     go_wp2
     go_ret
     exact ⟨rfl, rfl⟩
 . have EV : Hid (tmT n = false) := decide_eq_false (by omega)
   rw [EV.out]
   go_enter Tryd.func53, Tryd.ntmps53
   go_wp2
   go_ret
   exact ⟨rfl, rfl⟩
theorem goodBucket_n (s : ByteArray) (w : World) : Calls Tryd.prog 80 #[.string s] w fun e w' => e = .returned (.bool (gdN s)) /\ w' = w := by
 obtain ⟨n, Hn⟩ := nm (s.size)
 by_cases h1 : n < 3
 . have EV : Hid (gdN s = false) := by
    unfold gdN
    rw [Hn.out, decide_eq_false (by omega)]
    exact (rfl : (_ : Bool) = _)
   have i1 : (n : Int) < 3 := by omega
   rw [EV.out]
   go_enter Tryd.func80, Tryd.ntmps80
   rw [<- Hn.out] at i1
   go_wp2
   go_ret
   exact ⟨rfl, rfl⟩
 . by_cases h2 : 63 < n
   . have EV : Hid (gdN s = false) := by
      unfold gdN
      rw [Hn.out, decide_eq_false (by omega)]
      exact (rfl : (_ : Bool) = _)
     have i1 : ¬ ((s.size : Int) < 3) := by rw [Hn.out]; omega
     have i2 : (63 : Int) < (s.size : Int) := by rw [Hn.out]; omega
     rw [EV.out]
     go_enter Tryd.func80, Tryd.ntmps80
     go_wp2
     go_ret
     exact ⟨rfl, rfl⟩
   . have i1 : ¬ ((s.size : Int) < 3) := by rw [Hn.out]; omega
     have i2 : ¬ ((63 : Int) < (s.size : Int)) := by rw [Hn.out]; omega
     have hs : s.size <= 281474976710656 := by rw [Hn.out]; omega
     have EV : Hid (gdN s = (evB nmB s s.size && (nmE (sb s 0) && nmE (sb s (s.size - 1))))) := by
      unfold gdN
      rw [decide_eq_true (by rw [Hn.out]; omega)]
      exact (rfl : (_ : Bool) = _)
     rw [EV.out]
     obtain ⟨c0, Hc0⟩ := nm (sb s 0)
     obtain ⟨c1, Hc1⟩ := nm (sb s (s.size - 1))
     have ix0 : ∀ w, (Instr.index 9 (.string s) (.int .i64 (0 : Int))).run Tryd.prog w = .ok (.int .u8 (c0 : Int)) w := fun w => by rw [<- Hc0.out]; exact sb_ix s 0 _ rfl (by rw [Hn.out]; omega) w
     have ix1 : ∀ w, (Instr.index 9 (.string s) (.int .i64 ((s.size : Int) - 1))).run Tryd.prog w = .ok (.int .u8 (c1 : Int)) w := fun w => by rw [<- Hc1.out]; exact sb_ix s (s.size - 1) _ (by rw [Hn.out]; omega) (by rw [Hn.out]; omega) w
     rw [Hc0.out, Hc1.out]
     clear Hc0 Hc1
     obtain ⟨b0, Hb0⟩ := nm (evB nmB s s.size)
     obtain ⟨b1, Hb1⟩ := nm (nmE c0)
     obtain ⟨b2, Hb2⟩ := nm (nmE c1)
     rw [Hb0.out, Hb1.out, Hb2.out]
     cases b0 with
     | false =>
       go_enter Tryd.func80, Tryd.ntmps80
       go_wp2_with (go_at_call 89; refine (everyName_n s hs _).mono ?_; rintro e w0 ⟨rfl, h0⟩; rw [h0, Hb0.out]; clear h0)
       go_ret
       exact ⟨rfl, rfl⟩
     | true =>
       cases b1 with
       | false =>
         go_enter Tryd.func80, Tryd.ntmps80
         go_wp2_with first
          | (go_at_call 89; refine (everyName_n s hs _).mono ?_; rintro e w0 ⟨rfl, h0⟩; rw [h0, Hb0.out]; clear h0)
          | (go_at_call 91; refine (isEnd_n c0 _).mono ?_; rintro e w0 ⟨rfl, h0⟩; rw [h0, Hb1.out]; clear h0)
         go_ret
         exact ⟨rfl, rfl⟩
       | true =>
         cases b2 with
         | false =>
           go_enter Tryd.func80, Tryd.ntmps80
           go_wp2_with first
            | (go_at_call 89; refine (everyName_n s hs _).mono ?_; rintro e w0 ⟨rfl, h0⟩; rw [h0, Hb0.out]; clear h0)
            | (go_at_call 91; refine (isEnd_n _ _).mono ?_; rintro e w0 ⟨rfl, h0⟩; rw [h0]; (first | rw [Hb1.out] | rw [Hb2.out]); clear h0)
           go_ret
           exact ⟨rfl, rfl⟩
         | true =>
           go_enter Tryd.func80, Tryd.ntmps80
           go_wp2_with first
            | (go_at_call 89; refine (everyName_n s hs _).mono ?_; rintro e w0 ⟨rfl, h0⟩; rw [h0, Hb0.out]; clear h0)
            | (go_at_call 91; refine (isEnd_n _ _).mono ?_; rintro e w0 ⟨rfl, h0⟩; rw [h0]; (first | rw [Hb1.out] | rw [Hb2.out]); clear h0)
           go_ret
           exact ⟨rfl, rfl⟩
theorem goodKey_n (s : ByteArray) (w : World) : Calls Tryd.prog 81 #[.string s] w fun e w' => e = .returned (.bool (gdK s)) /\ w' = w := by
 obtain ⟨n, Hn⟩ := nm (s.size)
 by_cases h1 : n < 1
 . have EV : Hid (gdK s = false) := by
    unfold gdK
    rw [Hn.out, decide_eq_false (by omega)]
    exact (rfl : (_ : Bool) = _)
   have i1 : ¬ ((1 : Int) <= (s.size : Int)) := by rw [Hn.out]; omega
   rw [EV.out]
   go_enter Tryd.func81, Tryd.ntmps81
   go_wp2
   go_ret
   exact ⟨rfl, rfl⟩
 . have i1 : (1 : Int) <= (s.size : Int) := by rw [Hn.out]; omega
   by_cases h2 : 200 < n
   . have EV : Hid (gdK s = false) := by
      unfold gdK
      rw [Hn.out, decide_eq_false (by omega)]
      exact (rfl : (_ : Bool) = _)
     have i2 : ¬ ((s.size : Int) <= 200) := by rw [Hn.out]; omega
     rw [EV.out]
     go_enter Tryd.func81, Tryd.ntmps81
     go_wp2
     go_ret
     exact ⟨rfl, rfl⟩
   . have i2 : (s.size : Int) <= 200 := by rw [Hn.out]; omega
     have hs : s.size <= 281474976710656 := by rw [Hn.out]; omega
     have EV : Hid (gdK s = evB kyB s s.size) := by
      unfold gdK
      rw [decide_eq_true (by rw [Hn.out]; omega)]
      exact (rfl : (_ : Bool) = _)
     rw [EV.out]
     go_enter Tryd.func81, Tryd.ntmps81
     go_wp2_with (go_at_call 89; refine (everyKey_n s hs _).mono ?_; rintro e w0 ⟨rfl, h0⟩; rw [h0]; clear h0)
     go_ret
     exact ⟨rfl, rfl⟩
theorem goodId_n (a b c : Int) (w : World) : Calls Tryd.prog 30 #[.agg #[.int .i64 a,.int .i64 b,.int .i64 c]] w fun e w' => e = .returned (.bool (gdI a b c)) /\ Hid (w' = w.alloc (.cells #[.int .i64 a,.int .i64 b,.int .i64 c] 23)) := by
 obtain ⟨t1, H1⟩ := nm (tmT b)
 obtain ⟨t2, H2⟩ := nm (tmT c)
 by_cases h1 : 0 <= a
 . by_cases h2 : a < 16
   . have EV : Hid (gdI a b c = (t1 && t2)) := by unfold gdI; rw [decide_eq_true ⟨h1, h2⟩, H1.out, H2.out]; exact (rfl : (_ : Bool) = _)
     rw [EV.out]
     cases t1 with
     | false =>
       go_enter Tryd.func30, Tryd.ntmps30
       go_wp2_with (go_at_call 53; refine (isTime_n _ _).mono ?_; rintro e w0 ⟨rfl, h0⟩; rw [h0, H1.out]; clear h0)
       go_ret
       exact ⟨rfl, rfl⟩
     | true =>
       go_enter Tryd.func30, Tryd.ntmps30
       go_wp2_with (go_at_call 53; refine (isTime_n _ _).mono ?_; rintro e w0 ⟨rfl, h0⟩; rw [h0]; (first | rw [H1.out] | rw [H2.out]); clear h0)
       go_ret
       exact ⟨rfl, rfl⟩
   . have EV : Hid (gdI a b c = false) := by unfold gdI; rw [decide_eq_false (by omega)]; exact (rfl : (_ : Bool) = _)
     rw [EV.out]
     go_enter Tryd.func30, Tryd.ntmps30
     go_wp2
     go_ret
     exact ⟨rfl, rfl⟩
 . have EV : Hid (gdI a b c = false) := by unfold gdI; rw [decide_eq_false (by omega)]; exact (rfl : (_ : Bool) = _)
   rw [EV.out]
   go_enter Tryd.func30, Tryd.ntmps30
   go_wp2
   go_ret
   exact ⟨rfl, rfl⟩
theorem refGoodId_n (a b c : Int) (w : World) : Calls Tryd.prog 20 #[.agg #[.int .i64 a,.int .i64 b,.int .i64 c]] w fun e w' => e = .returned (.bool (gdI a b c)) /\ Hid (w' = w.alloc (.cells #[.int .i64 a,.int .i64 b,.int .i64 c] 23)) := by
 have EV : Hid (gdI a b c = decide (0 <= a /\ a <= 15 /\ 0 <= b /\ b <= 1099511627776 /\ 0 <= c /\ c <= 1099511627776)) := by
  show gdI a b c = _
  unfold gdI tmT
  rw [<- Bool.decide_and, <- Bool.decide_and]
  exact decide_eq_decide.2 (by omega)
 by_cases h1 : 0 <= a
 . by_cases h2 : a <= 15
   . by_cases h3 : 0 <= b
     . by_cases h4 : b <= 1099511627776
       . by_cases h5 : 0 <= c
         . by_cases h6 : c <= 1099511627776
           . rw [EV.out, decide_eq_true ⟨h1, h2, h3, h4, h5, h6⟩]
             go_enter Tryd.func20, Tryd.ntmps20
             go_wp2
             go_ret
             exact ⟨rfl, rfl⟩
           . rw [EV.out, decide_eq_false (fun h => h6 h.2.2.2.2.2)]
             go_enter Tryd.func20, Tryd.ntmps20
             go_wp2
             go_ret
             exact ⟨rfl, rfl⟩
         . rw [EV.out, decide_eq_false (fun h => h5 h.2.2.2.2.1)]
           go_enter Tryd.func20, Tryd.ntmps20
           go_wp2
           go_ret
           exact ⟨rfl, rfl⟩
       . rw [EV.out, decide_eq_false (fun h => h4 h.2.2.2.1)]
         go_enter Tryd.func20, Tryd.ntmps20
         go_wp2
         go_ret
         exact ⟨rfl, rfl⟩
     . rw [EV.out, decide_eq_false (fun h => h3 h.2.2.1)]
       go_enter Tryd.func20, Tryd.ntmps20
       go_wp2
       go_ret
       exact ⟨rfl, rfl⟩
   . rw [EV.out, decide_eq_false (fun h => h2 h.2.1)]
     go_enter Tryd.func20, Tryd.ntmps20
     go_wp2
     go_ret
     exact ⟨rfl, rfl⟩
 . rw [EV.out, decide_eq_false (fun h => h1 h.1)]
   go_enter Tryd.func20, Tryd.ntmps20
   go_wp2
   go_ret
   exact ⟨rfl, rfl⟩
def rin (n c i : Nat) : Bool := nmE c || decide (0 < i /\ i + 1 < n /\ (c = 45 ∨ c = 46))
def rbk (s : ByteArray) (i : Nat) : Bool := decide (3 <= s.size /\ s.size <= 63) && (List.range i).all (fun j => rin s.size (sb s j) j)
theorem rbk_succ (s : ByteArray) (i : Nat) : rbk s (i + 1) = (rbk s i && rin s.size (sb s i) i) := by simp [rbk, List.range_succ, Bool.and_assoc]
theorem rbk_end (s : ByteArray) : rbk s s.size = gdN s := by
 unfold rbk gdN
 by_cases h : 3 <= s.size /\ s.size <= 63
 . rw [decide_eq_true h, Bool.true_and, Bool.true_and]
   rw [Bool.eq_iff_iff]
   simp only [List.all_eq_true, List.mem_range, Bool.and_eq_true, evB_iff]
   constructor
   . intro H
     refine ⟨fun j hj => ?_, ?_, ?_⟩
     . have := H j hj
       simp only [rin, Bool.or_eq_true, nmE, nmB, decide_eq_true_eq] at this ⊢
       rcases this with h | h
       . exact .inl h
       . exact .inr h.2.2
     . have := H 0 (by omega)
       simp only [rin, Bool.or_eq_true, decide_eq_true_eq] at this
       rcases this with h | h
       . exact h
       . omega
     . have := H (s.size - 1) (by omega)
       simp only [rin, Bool.or_eq_true, decide_eq_true_eq] at this
       rcases this with h | h
       . exact h
       . omega
   . rintro ⟨H, h0, h1⟩ j hj
     simp only [rin, Bool.or_eq_true, decide_eq_true_eq]
     by_cases e0 : j = 0
     . subst e0; exact .inl h0
     . by_cases e1 : j + 1 = s.size
       . have : j = s.size - 1 := by omega
         rw [this]; exact .inl h1
       . have := H j hj
         simp only [nmB, decide_eq_true_eq] at this
         rcases this with h | h
         . exact .inl (decide_eq_true h)
         . exact .inr ⟨by omega, by omega, h⟩
 . rw [decide_eq_false h, Bool.false_and, Bool.false_and]
def rky (s : ByteArray) (i : Nat) : Bool := decide (1 <= s.size /\ s.size <= 200) && evB kyB s i
theorem rky_succ (s : ByteArray) (i : Nat) : rky s (i + 1) = (rky s i && kyB (sb s i)) := by simp [rky, evB_succ, Bool.and_assoc]
theorem refBucket_n (s : ByteArray) (hs : s.size <= 281474976710656) (w : World) : Calls Tryd.prog 58 #[.string s] w fun e w' => e = .returned (.bool (gdN s)) /\ w' = w := by
 obtain ⟨n, Hn⟩ := nm (s.size)
 have hs0 : (s.size : Int) <= 281474976710656 := by omega
 rw [Hn.out] at hs
 have ST : rbk s 0 = decide (3 <= n /\ n <= 63) := by simp [rbk, evB_zero, Hn.out]
 rcases (show ¬ ((3 : Int) <= (n : Int)) ∨ ((3 : Int) <= (n : Int) /\ ¬ ((n : Int) <= 63)) ∨ ((3 : Int) <= (n : Int) /\ (n : Int) <= 63) by omega) with h1 | ⟨h1, h2⟩ | ⟨h1, h2⟩
 all_goals
  first
   | have S0 : Hid (rbk s 0 = true) := ST.trans (decide_eq_true (by omega))
   | have S0 : Hid (rbk s 0 = false) := ST.trans (decide_eq_false (by omega))
  rw [<- Hn.out] at h1
  try rw [<- Hn.out] at h2
  clear ST
  go_enter Tryd.func58, Tryd.ntmps58
  go_upto_region 2 with (fail)
  clear h1
  try clear h2
  go_wp2
  go_loop [3, 4] (fun t3 t4 => ∃ i : Nat, i <= n /\ t4 = .int .i64 (i : Int) /\ t3 = .bool (rbk s i)) (fun _ t4 => n - (intOf t4).toNat)
  case atStart => exact ⟨0, by omega, rfl, by rw [S0.out]⟩
  case round =>
   obtain ⟨i, hi, rfl, rfl⟩ := hrel
   clear S0
   have LN : (s.size : Int) = (n : Int) := by rw [Hn.out]
   by_cases hlt : i < n
   . have i1 : (i : Int) < (s.size : Int) := by rw [Hn.out]; omega
     have i2 : i < n := hlt
     obtain ⟨c, Hc⟩ := nm (sb s i)
     have ix : ∀ w, (Instr.index 9 (.string s) (.int .i64 (i : Int))).run Tryd.prog w = .ok (.int .u8 (c : Int)) w := fun w => by rw [<- Hc.out]; exact sb_ix s i _ rfl (by rw [Hn.out]; exact hlt) w
     have SU : Hid (rbk s (i + 1) = (rbk s i && rin n c i)) := by rw [<- Hc.out, <- Hn.out]; exact rbk_succ s i
     clear LN
     rcases Bool.eq_false_or_eq_true (rbk s i) with hb | hb
     . have HB : Hid (rbk s i = true) := hb
       clear hb
       rw [HB.out]
       rcases Bool.eq_false_or_eq_true (nmE c) with hE | hE
       . have PE : Hid (nmE c = true) := hE
         have RV : Hid (rin n c i = true) := by show _ = _; unfold rin; rw [hE]; rfl
         clear hE
         go_wp2_with (go_at_call 72; refine (plain_n c _).mono ?_; rintro e w0 ⟨rfl, h0⟩; rw [h0, PE.out]; clear h0)
         go_round
         case rel => exact ⟨i + 1, by omega, by go_num, by rw [SU.out, HB.out, RV.out]; rfl⟩
         case measure => simp [intOf]; omega
       . have PE : Hid (nmE c = false) := hE
         have RI : rin n c i = decide (0 < i /\ i + 1 < n /\ (c = 45 ∨ c = 46)) := by unfold rin; rw [hE, Bool.false_or]
         clear hE
         by_cases j1 : (0 : Int) < (i : Int)
         . by_cases j2 : (i : Int) < (s.size : Int) - 1
           . have j3 : i + 1 < n := by have e : (s.size : Int) = (n : Int) := by rw [Hn.out]
                                       omega
             by_cases j4 : c = 45
             . have RV : Hid (rin n c i = true) := RI.trans (decide_eq_true (by omega))
               clear RI j3
               subst j4
               go_wp2_with (go_at_call 72; refine (plain_n 45 _).mono ?_; rintro e w0 ⟨rfl, h0⟩; rw [h0, PE.out]; clear h0)
               go_round
               case rel => exact ⟨i + 1, by omega, by go_num, by rw [SU.out, HB.out, RV.out]; rfl⟩
               case measure => simp [intOf]; omega
             . by_cases j5 : c = 46
               . have RV : Hid (rin n c i = true) := RI.trans (decide_eq_true (by omega))
                 clear RI j3 j4
                 subst j5
                 go_wp2_with (go_at_call 72; refine (plain_n 46 _).mono ?_; rintro e w0 ⟨rfl, h0⟩; rw [h0, PE.out]; clear h0)
                 go_round
                 case rel => exact ⟨i + 1, by omega, by go_num, by rw [SU.out, HB.out, RV.out]; rfl⟩
                 case measure => simp [intOf]; omega
               . have RV : Hid (rin n c i = false) := RI.trans (decide_eq_false (by omega))
                 have J4 : ¬ ((c : Int) = 45) := by omega
                 have J6 : ¬ ((c : Int) = 46) := by omega
                 clear RI j3 j4 j5
                 go_wp2_with (go_at_call 72; refine (plain_n c _).mono ?_; rintro e w0 ⟨rfl, h0⟩; rw [h0, PE.out]; clear h0)
                 go_round
                 case rel => exact ⟨i + 1, by omega, by go_num, by rw [SU.out, HB.out, RV.out]; simp [J4, J6]⟩
                 case measure => simp [intOf]; omega
           . have RV : Hid (rin n c i = false) := RI.trans (decide_eq_false (by have e : (s.size : Int) = (n : Int) := by rw [Hn.out]
                                                                                omega))
             clear RI
             go_wp2_with (go_at_call 72; refine (plain_n c _).mono ?_; rintro e w0 ⟨rfl, h0⟩; rw [h0, PE.out]; clear h0)
             go_round
             case rel => exact ⟨i + 1, by omega, by go_num, by rw [SU.out, HB.out, RV.out]; rfl⟩
             case measure => simp [intOf]; omega
         . have RV : Hid (rin n c i = false) := RI.trans (decide_eq_false (by omega))
           clear RI
           go_wp2_with (go_at_call 72; refine (plain_n c _).mono ?_; rintro e w0 ⟨rfl, h0⟩; rw [h0, PE.out]; clear h0)
           go_round
           case rel => exact ⟨i + 1, by omega, by go_num, by rw [SU.out, HB.out, RV.out]; rfl⟩
           case measure => simp [intOf]; omega
     . have HB : Hid (rbk s i = false) := hb
       clear hb
       rw [HB.out]
       go_wp2
       go_round
       case rel => exact ⟨i + 1, by omega, by go_num, by rw [SU.out, HB.out, Bool.false_and]⟩
       case measure => simp [intOf]; omega
   . obtain rfl : i = n := by omega
     have i1 : ¬ ((i : Int) < (s.size : Int)) := by rw [Hn.out]; omega
     go_wp2
     go_ret
     rw [<- rbk_end, Hn.out]
     exact ⟨rfl, rfl⟩
theorem refKey_n (s : ByteArray) (hs : s.size <= 281474976710656) (w : World) : Calls Tryd.prog 59 #[.string s] w fun e w' => e = .returned (.bool (gdK s)) /\ w' = w := by
 obtain ⟨n, Hn⟩ := nm (s.size)
 have hs0 : (s.size : Int) <= 281474976710656 := by omega
 rw [Hn.out] at hs
 have ST : rky s 0 = decide (1 <= n /\ n <= 200) := by simp [rky, evB_zero, Hn.out]
 rcases (show ¬ ((1 : Int) <= (n : Int)) ∨ ((1 : Int) <= (n : Int) /\ ¬ ((n : Int) <= 200)) ∨ ((1 : Int) <= (n : Int) /\ (n : Int) <= 200) by omega) with h1 | ⟨h1, h2⟩ | ⟨h1, h2⟩
 all_goals
  first
   | have S0 : Hid (rky s 0 = true) := ST.trans (decide_eq_true (by omega))
   | have S0 : Hid (rky s 0 = false) := ST.trans (decide_eq_false (by omega))
  rw [<- Hn.out] at h1
  try rw [<- Hn.out] at h2
  clear ST
  go_enter Tryd.func59, Tryd.ntmps59
  go_upto_region 2 with (fail)
  clear h1
  try clear h2
  go_wp2
  go_loop [3, 4] (fun t3 t4 => ∃ i : Nat, i <= n /\ t4 = .int .i64 (i : Int) /\ t3 = .bool (rky s i)) (fun _ t4 => n - (intOf t4).toNat)
  case atStart => exact ⟨0, by omega, rfl, by rw [S0.out]⟩
  case round =>
   obtain ⟨i, hi, rfl, rfl⟩ := hrel
   clear S0
   have LN : (s.size : Int) = (n : Int) := by rw [Hn.out]
   by_cases hlt : i < n
   . have i1 : (i : Int) < (s.size : Int) := by rw [Hn.out]; omega
     have i2 : i < n := hlt
     obtain ⟨c, Hc⟩ := nm (sb s i)
     have ix : ∀ w, (Instr.index 9 (.string s) (.int .i64 (i : Int))).run Tryd.prog w = .ok (.int .u8 (c : Int)) w := fun w => by rw [<- Hc.out]; exact sb_ix s i _ rfl (by rw [Hn.out]; exact hlt) w
     have SU : Hid (rky s (i + 1) = (rky s i && kyB c)) := by rw [<- Hc.out]; exact rky_succ s i
     clear LN
     rcases Bool.eq_false_or_eq_true (rky s i) with hb | hb
     . have HB : Hid (rky s i = true) := hb
       clear hb
       rw [HB.out]
       by_cases j1 : (32 : Int) <= (c : Int)
       . by_cases j2 : (c : Int) <= 126
         . have RV : Hid (kyB c = true) := decide_eq_true (by omega)
           go_wp2
           go_round
           case rel => exact ⟨i + 1, by omega, by go_num, by rw [SU.out, HB.out, RV.out]; rfl⟩
           case measure => simp [intOf]; omega
         . have RV : Hid (kyB c = false) := decide_eq_false (by omega)
           go_wp2
           go_round
           case rel => exact ⟨i + 1, by omega, by go_num, by rw [SU.out, HB.out, RV.out]; rfl⟩
           case measure => simp [intOf]; omega
       . have RV : Hid (kyB c = false) := decide_eq_false (by omega)
         go_wp2
         go_round
         case rel => exact ⟨i + 1, by omega, by go_num, by rw [SU.out, HB.out, RV.out]; rfl⟩
         case measure => simp [intOf]; omega
     . have HB : Hid (rky s i = false) := hb
       clear hb
       rw [HB.out]
       go_wp2
       go_round
       case rel => exact ⟨i + 1, by omega, by go_num, by rw [SU.out, HB.out, Bool.false_and]⟩
       case measure => simp [intOf]; omega
   . obtain rfl : i = n := by omega
     have i1 : ¬ ((i : Int) < (s.size : Int)) := by rw [Hn.out]; omega
     go_wp2
     go_ret
     rw [show gdK s = rky s s.size from rfl, Hn.out]
     exact ⟨rfl, rfl⟩
end Go.Proofs.YtppibcambhmomaaDoor
