/- Slices of bytes in memory, and what the laws' own Bytes and Kept do, for all slices. -/
import Derived.Test.YtemhhlongfabmaaGreatDoorRa
import Derived.WalkKit
import Derived.ProofKit
import Derived.OpenShut
import Derived.Outline
import Derived.Handy
import Derived.Laws.BitsAllLaws
import Derived.Deep.QuietTactic
import Derived.BigQuiet
import Derived.WalkSmall
import Derived.Laws.Tables
import Derived.Laws.CopyOwn
import Derived.SizedLaws
import Derived.ChangeOld
import Derived.Below
import Derived.Lib.SmallJoins
namespace Go.Proofs.YtemhhlongfabmaaGreatDoor
open Go.ChangeShapes Go.WideShapes Go.ChangeAt Go.RowKit
set_option linter.unusedVariables false
set_option linter.unusedSimpArgs false
theorem ret_int {k : IntKind} {a b : Int} (h : a = b) : Ending.returned (.int k a) = .returned (.int k b) := by rw [h]
/- A slice's elements as plain numbers below 256: nothing is asked where there is none. -/
def Row (w : World) (b off : Nat) (l : List Nat) : Prop := ∀ i, i < l.length → w.cell? ⟨b, off + i, none⟩ = some (.int .u8 (l.getD i 0 : Nat))
theorem getD_lt {l : List Nat} (h : ∀ x ∈ l, x < 256) (i : Nat) : l.getD i 0 < 256 := by
  by_cases hi : i < l.length
  · have e : l.getD i 0 = l[i] := by simp [List.getD, hi]
    rw [e]; exact h _ (List.getElem_mem hi)
  · have e : l.getD i 0 = 0 := by simp [List.getD, Nat.le_of_not_lt hi]
    omega
theorem cell_drewN (w : World) (n : Nat) (a : Addr) : (w.drewN n).cell? a = w.cell? a := by simp [go_sem]
def bv (x : Nat) : Value := .int .u8 (x : Int)
/- block g holds just the bytes l, none of them frozen -/
def Blk (w : World) (g : Nat) (l : List Nat) : Prop := w.heap[g]? = some (.cells (l.map bv).toArray 5 (0, 0))
/- all but block g is as it was -/
structure Oth (g : Nat) (w w' : World) : Prop where
  os : w'.os = w.os
  tape : w'.tape = w.tape
  output : w'.output = w.output
  size : w'.heap.size = w.heap.size
  block : ∀ k, k ≠ g → w'.heap[k]? = w.heap[k]?
theorem Oth.refl (g : Nat) (w : World) : Oth g w w := ⟨rfl, rfl, rfl, rfl, fun _ _ => rfl⟩
theorem Oth.trans {g : Nat} {a b c : World} (h : Oth g a b) (k : Oth g b c) : Oth g a c :=
  ⟨k.os.trans h.os, k.tape.trans h.tape, k.output.trans h.output, k.size.trans h.size, fun i hi => (k.block i hi).trans (h.block i hi)⟩
theorem Oth.drewN {g : Nat} {a w : World} (h : Oth g a w) (n : Nat) : Oth g a (w.drewN n) := h.trans ⟨rfl, rfl, rfl, rfl, fun _ _ => rfl⟩
theorem Oth.setCell {g : Nat} {a w : World} (h : Oth g a w) (i : Nat) (v : Value) : Oth g a (w.setCell ⟨g, i, none⟩ v) :=
  h.trans ⟨rfl, rfl, rfl, by simp [World.setCell], fun _ hk => Below.heap_setCell _ _ _ _ hk⟩
theorem Oth.cell {g : Nat} {w w' : World} (h : Oth g w w') {p : Addr} (hp : p.block ≠ g) : w'.cell? p = w.cell? p := World.cell?_of_block (w := w) (h.block p.block hp)
theorem Oth.below {B g : Nat} {w0 w w' : World} (hb : Below B w0 w) (h : Oth g w w') (hg : B ≤ g) : Below B w0 w' :=
  hb.trans ⟨h.os, h.tape, h.output, Nat.le_of_eq h.size.symm, fun k hk => h.block k (by omega)⟩
theorem Blk.cell {w : World} {g : Nat} {l : List Nat} (h : Blk w g l) {i : Nat} (hi : i < l.length) : w.cell? ⟨g, i, none⟩ = some (.int .u8 (l.getD i 0 : Nat)) := by
  unfold Blk at h
  simp [World.cell?, h, hi, bv]
theorem Blk.frozen {w : World} {g : Nat} {l : List Nat} (h : Blk w g l) (i : Nat) : w.frozen? ⟨g, i, none⟩ = false := by
  unfold Blk at h
  simp [World.frozen?, h]
theorem Blk.lt {w : World} {g : Nat} {l : List Nat} (h : Blk w g l) : g < w.heap.size := (Array.getElem?_eq_some_iff.1 h).1
theorem Blk.set {w : World} {g : Nat} {l : List Nat} (h : Blk w g l) (i x : Nat) : Blk (w.setCell ⟨g, i, none⟩ (.int .u8 (x : Nat))) g (l.set i x) := by
  have h0 : w.heap[g]? = some (.cells (l.map bv).toArray 5 (0, 0)) := h
  rw [setCell_eq_setRow w g i _ 5 (0, 0) _ h0]
  have h1 := setRow_heap w g _ ((l.map bv).toArray.setIfInBounds i (.int .u8 (x : Nat))) 5 (0, 0) h0
  unfold Blk
  rw [h1]
  simp [List.map_set, bv]
theorem Blk.below {B : Nat} {w w' : World} {g : Nat} {l : List Nat} (h : Blk w g l) (hb : Below B w w') (hg : g < B) : Blk w' g l := (hb.block g hg).trans h
theorem Blk.oth {k : Nat} {w w' : World} {g : Nat} {l : List Nat} (h : Blk w g l) (hb : Oth k w w') (hg : g ≠ k) : Blk w' g l := (hb.block g hg).trans h
theorem Blk.drewN {w : World} {g : Nat} {l : List Nat} (h : Blk w g l) (n : Nat) : Blk (w.drewN n) g l := h
theorem Blk.alloc {w : World} {g : Nat} {l : List Nat} (h : Blk w g l) (o : Obj) : Blk (w.alloc o) g l := (Below.heap_alloc w o g h.lt).trans h
theorem Blk.made (w : World) (n : Nat) : Blk (w.alloc (.cells (madeCells #[.int .u8 0] n) 5)) w.heap.size (List.replicate n 0) := by
  have e : madeCells #[Value.int .u8 0] n = ((List.replicate n 0).map bv).toArray := by
    apply Array.ext
    · simp [madeCells]
    · intro i h1 h2
      simp [madeCells, Nat.mod_one, bv]
  rw [e]
  show (w.heap.push _)[w.heap.size]? = _
  simp
theorem Blk.row {w : World} {g : Nat} {l : List Nat} (h : Blk w g l) : Row w g 0 l := fun i hi => by rw [Nat.zero_add]; exact h.cell hi
/- a slice that reads as the bytes l: empty, or a row in a block that is there -/
def Sli (w : World) (a : Option Addr) (l : List Nat) : Prop := (∀ x ∈ l, x < 256) ∧ l.length ≤ 140737488354304 ∧ (l = [] ∨ ∃ b off, a = some ⟨b, off, none⟩ ∧ b < w.heap.size ∧ Row w b off l)
theorem Sli.below {w w' : World} {a : Option Addr} {l : List Nat} (h : Sli w a l) (hb : Below w.heap.size w w') : Sli w' a l := by
  refine ⟨h.1, h.2.1, ?_⟩
  rcases h.2.2 with h0 | ⟨b, off, rfl, hl, hr⟩
  · exact .inl h0
  · exact .inr ⟨b, off, rfl, Nat.lt_of_lt_of_le hl hb.size, fun i hi => (hb.cell (p := ⟨b, off + i, none⟩) hl).trans (hr i hi)⟩
theorem Blk.sli {w : World} {g : Nat} {l : List Nat} (h : Blk w g l) (h1 : ∀ x ∈ l, x < 256) (h2 : l.length ≤ 140737488354304) : Sli w (some ⟨g, 0, none⟩) l :=
  ⟨h1, h2, .inr ⟨g, 0, rfl, h.lt, h.row⟩⟩
/- the bytes as the string that they spell -/
def spell (l : List Nat) : ByteArray := (l.map fun x : Nat => (x : Int)).foldl (fun r n => r.push (UInt8.ofNat n.toNat)) ByteArray.empty
def ext (l : List Nat) (n : Nat) : List Nat := l ++ List.replicate (n - l.length) 0
theorem ext_length (l : List Nat) (n : Nat) (h : l.length ≤ n) : (ext l n).length = n := by simp [ext]; omega
theorem ext_lt {l : List Nat} (h : ∀ x ∈ l, x < 256) (n : Nat) : ∀ x ∈ ext l n, x < 256 := by
  intro x hx
  rcases List.mem_append.1 hx with h1 | h1
  · exact h x h1
  · have := List.eq_of_mem_replicate h1; omega
theorem splice_ext (l : List Nat) (n : Nat) (h : l.length ≤ n) : splice ((List.replicate n 0).map bv) 0 (l.map bv) = (ext l n).map bv := by
  simp [splice, ext, List.drop_replicate]
theorem info5 : (Tryz.prog.info? 5).map (fun i => (i.zero, i.size, i.bytes)) = some (some (.int .u8 0), 1, 1) := by kernel_rfl
theorem size5 : (Tryz.prog.info? 5).map (·.size) = some 1 := by kernel_rfl
theorem make_bytes (n : Nat) (h : n ≤ 281474976710656) (w : World) : (Instr.makeSlice 22 (.int .i64 (n : Int)) (.int .i64 (n : Int))).run Tryz.prog w = .ok (.slice (some ⟨w.heap.size, 0, none⟩) n n) (w.alloc (.cells (madeCells #[.int .u8 0] n) 5)) := by
  obtain ⟨i, hi, hz0, hz1, hz2⟩ := info_parts info5
  have hr := run_make (P := Tryz.prog) w 22 5 i (.int .u8 0) Tryz.underlying22 hi hz0 .i64 .i64 n n (by omega) (by omega) (by rw [hz2]; omega) (by omega)
  rw [hz1] at hr
  simpa [Value.cells] using hr
theorem getD_out {l : List Nat} {i : Nat} (h : l.length ≤ i) : l.getD i 0 = 0 := by simp [List.getD, h]
/- a slice of n elements that reads as l -/
structure Sln (w : World) (a : Option Addr) (n : Nat) (l : List Nat) : Prop where
  len : n = l.length
  sli : Sli w a l
theorem Sln.below {w w' : World} {a : Option Addr} {n : Nat} {l : List Nat} (h : Sln w a n l) (hb : Below w.heap.size w w') : Sln w' a n l := ⟨h.len, h.sli.below hb⟩
theorem Sln.drewN {w : World} {a : Option Addr} {n : Nat} {l : List Nat} (h : Sln w a n l) (k : Nat) : Sln (w.drewN k) a n l := h.below (below_drewN (Below.refl _ _) k)
theorem Sln.drew {w : World} {a : Option Addr} {n : Nat} {l : List Nat} (h : Sln w a n l) : Sln w.drew a n l := h.drewN 1
theorem Sln.lt {w : World} {a : Option Addr} {n : Nat} {l : List Nat} (h : Sln w a n l) : ∀ x ∈ l, x < 256 := h.sli.1
theorem Blk.sln {w : World} {g : Nat} {l : List Nat} (h : Blk w g l) (h1 : ∀ x ∈ l, x < 256) (h2 : l.length ≤ 140737488354304) : Sln w (some ⟨g, 0, none⟩) l.length l := ⟨rfl, h.sli h1 h2⟩
theorem conv_n {a : Option Addr} {n k : Nat} {l : List Nat} {w : World} (h : Hid (Sln w a n l)) : (convert 22 9 (.slice a n k)).run Tryz.prog w = .ok (.string (spell l)) w := by
  rw [run_convert_bytes_string w 22 9 5 a n k Tryz.underlying22 Tryz.underlying5 Tryz.underlying9]
  have e := h.out.len
  by_cases g : l = []
  · subst g
    have e0 : n = 0 := e
    subst e0
    cases a with
    | none => simp [Conv.bytesToString, spell, Sem.run_pure]
    | some a =>
      have hl : (loadCells a 0).run Tryz.prog w = .ok (([] : List Int).map (Value.int .u8)).toArray w := by simpa using run_loadCells_list (P := Tryz.prog) w a [] (by simp)
      exact run_bytesToString w a 0 k [] hl
  · obtain ⟨b, off, rfl, _, r⟩ := h.out.sli.2.2.resolve_left g
    have hl : (loadCells ⟨b, off, none⟩ n).run Tryz.prog w = .ok ((l.map fun x : Nat => (x : Int)).map (Value.int .u8)).toArray w := by
      have h0 := run_loadCells_list (P := Tryz.prog) w ⟨b, off, none⟩ ((l.map fun x : Nat => (x : Int)).map (Value.int .u8)) (fun j v hv => by
        simp at hv
        obtain ⟨x, hx, rfl⟩ := hv
        obtain ⟨hj, _⟩ := List.getElem?_eq_some_iff.1 hx
        have h4 := r j hj
        have h5 : l.getD j 0 = x := by simp [hx]
        rw [h5] at h4
        rw [show (⟨b, off, none⟩ : Addr).add j = ⟨b, off + j, none⟩ from by simp [Addr.add]]
        exact h4)
      have e3 : ((l.map fun x : Nat => (x : Int)).map (Value.int .u8)).length = n := by simp [e]
      rw [e3] at h0
      exact h0
    exact run_bytesToString w ⟨b, off, none⟩ n k _ hl
theorem bytes5 : Tryz.prog.bytesOf 5 = 1 := by kernel_rfl
theorem cells5 : Tryz.prog.cellsOf 5 = 1 := by kernel_rfl
theorem open_bytes {H : Type} {enc : TypeId × Value → H} {W : World} {fuel : Nat} {v : Value} {y : DataW H × List MemPlace} (hf : DataW.trod enc Tryz.prog W 0 (fun _ => true) true fuel 22 [v] = some y) (hsz : ∀ n ∈ y.1.weights Tryz.prog 22, n ≤ reachBytes) :
    ∃ a n k l, v = .slice a n k ∧ Hid (Sln W a n l) ∧ n ≤ k ∧ k ≤ 140737488351232 := by
  rcases open_ints Tryz.underlying22 Tryz.underlying5 cells5 hf with ⟨hcs, _⟩ | ⟨x, n, k, zs, hcs, _, hl, _, hz, hx, hcell, hwz⟩
  · simp at hcs
    exact ⟨none, 0, 0, [], hcs, ⟨rfl, by simp, by simp, .inl rfl⟩, by omega, by omega⟩
  · simp at hcs
    have hz : zs.length = k := by simpa using hz
    have hk : k ≤ 140737488351232 := by
      have h := hsz ((lits (H := H) .u8 (zs.take n)).length + (lits (H := H) .u8 (zs.drop n)).length) (by
        rw [hx]; simp only [DataW.weights, Tryz.underlying22, bytes5]; simp)
      simp only [lits, List.length_map, List.length_take, List.length_drop, reachBytes] at h
      omega
    refine ⟨some x, n, k, (zs.take n).map Int.toNat, hcs, ⟨by simp; omega, ?_, by simp; omega, ?_⟩, hl, hk⟩
    · intro z hzm
      obtain ⟨q, hq, rfl⟩ := List.mem_map.1 hzm
      have := bounds_u8 (hwz q (List.mem_of_mem_take hq))
      omega
    · by_cases h0 : n = 0
      · subst h0; exact .inl (by simp)
      · right
        obtain ⟨b, off, spot⟩ := x
        have hc := hcell 0 (by omega)
        have hspot : spot = none := by simpa [Addr.add] using World.cell?_spot hc
        subst hspot
        refine ⟨b, off, rfl, cell_lt (by simpa [Addr.add] using hc), fun i hi => ?_⟩
        have hi2 : i < n := by simp at hi; omega
        have h1 := hcell i (by omega)
        have h2 : (⟨b, off, none⟩ : Addr).add i = ⟨b, off + i, none⟩ := by simp [Addr.add]
        rw [h2] at h1
        rw [h1]
        have h3 : i < zs.length := by omega
        have h4 : zs.getD i 0 = zs[i] := by simp [List.getD, h3]
        have h5 : ((zs.take n).map Int.toNat).getD i 0 = (zs[i]).toNat := by simp [List.getD, h3, hi2]
        have h6 := bounds_u8 (hwz zs[i] (List.getElem_mem h3))
        rw [h4, h5, Int.toNat_of_nonneg h6.1]
def marks : List Nat := [201, 202, 203, 204, 205, 206]
theorem make_room (n : Nat) (h : n + 6 ≤ 281474976710656) (w : World) : (Instr.makeSlice 22 (.int .i64 0) (.int .i64 ((n : Int) + 6))).run Tryz.prog w = .ok (.slice (some ⟨w.heap.size, 0, none⟩) 0 (n + 6)) (w.alloc (.cells (madeCells #[.int .u8 0] (n + 6)) 5)) := by
  obtain ⟨i, hi, hz0, hz1, hz2⟩ := info_parts info5
  have hr := run_make (P := Tryz.prog) w 22 5 i (.int .u8 0) Tryz.underlying22 hi hz0 .i64 .i64 0 ((n : Int) + 6) (by omega) (by omega) (by rw [hz2]; omega) (by omega)
  rw [hz1] at hr
  have e : ((n : Int) + 6).toNat = n + 6 := by omega
  rw [e] at hr
  simpa [Value.cells] using hr
theorem map_cells {w : World} {b off : Nat} {l : List Nat} (r : Row w b off l) : ∀ j u, (l.map bv)[j]? = some u → w.cell? ((⟨b, off, none⟩ : Addr).add j) = some u := by
  intro j v hv
  simp at hv
  obtain ⟨x, hx, rfl⟩ := hv
  obtain ⟨hj, _⟩ := List.getElem?_eq_some_iff.1 hx
  have h4 := r j hj
  have h5 : l.getD j 0 = x := by simp [hx]
  rw [h5] at h4
  rw [show (⟨b, off, none⟩ : Addr).add j = ⟨b, off + j, none⟩ from by simp [Addr.add]]
  exact h4
theorem map_one (l : List Nat) : ∀ u ∈ l.map bv, u.oneCell' = true := by
  intro v hv
  obtain ⟨x, _, rfl⟩ := List.mem_map.1 hv
  rfl
/- a slice's content appended onto a row of the call's own, where there is room -/
theorem app_fits {w : World} {base g k cap : Nat} {xs : List Value} {a : Option Addr} {n c : Nat} {l : List Nat} (hown : w.ownsRow base 5 1 (.slice (some ⟨g, 0, none⟩) k cap) k xs) (h : Sln w a n l) (hc : a = none → c = 0) (hroom : k + n ≤ cap) :
    ∃ w', (Builtin.append_ #[22, 22] 22 #[.slice (some ⟨g, 0, none⟩) k cap, .slice a n c]).run Tryz.prog w = .ok (.slice (some ⟨g, 0, none⟩) (k + n) cap) w' ∧ w'.ownsRow base 5 1 (.slice (some ⟨g, 0, none⟩) (k + n) cap) (k + n) (xs ++ l.map bv) ∧ w.grownBy w' (some g) := by
  obtain ⟨i, hi, hz0, hz1, hz2⟩ := info_parts info5
  have e := h.len
  by_cases hl : l = []
  · subst hl
    have e0 : n = 0 := e
    subst e0
    cases a with
    | none =>
      have c0 := hc rfl
      subst c0
      exact ⟨w, run_append_owned_none (P := Tryz.prog) w base 22 22 5 i 1 Tryz.underlying22 hi _ k xs hown, by simpa using hown, World.grownBy.refl _ _⟩
    | some ad => exact run_append_fits (P := Tryz.prog) w base 22 22 5 i 1 Tryz.underlying22 hi hz1 g k cap xs hown ad 0 c [] rfl (by simp) (by simp) hroom
  · obtain ⟨b, off, rfl, _, r⟩ := h.sli.2.2.resolve_left hl
    exact run_append_fits (P := Tryz.prog) w base 22 22 5 i 1 Tryz.underlying22 hi hz1 g k cap xs hown ⟨b, off, none⟩ n c (l.map bv) (by simp [e]) (map_cells r) (map_one l) hroom
theorem own_full {w : World} {base g n : Nat} {l : List Nat} (h : w.ownsRow base 5 1 (.slice (some ⟨g, 0, none⟩) n n) n (l.map bv)) : Blk w g l := by
  rcases h.2 with ⟨h1, _⟩ | ⟨g', cap, cur, h1, _, hg, _, _, hs, ht⟩
  · simp at h1
  · simp only [Value.slice.injEq, Option.some.injEq, Addr.mk.injEq, and_true, true_and] at h1
    obtain ⟨rfl, rfl⟩ := h1
    have e : cur = (l.map bv).toArray := by
      have h2 : cur.toList.take (n * 1) = cur.toList := by rw [List.take_of_length_le (by simp [hs])]
      rw [h2] at ht
      rw [← ht]
    rw [e] at hg
    exact hg
/- an append whose run is known, at a list of operations -/
theorem wpList_appB {ops : Array Oper} {rest : List Oper} {o : Oper} {a : Act} {Q : Exit → Act → World → Prop} {w w' : World} {v v1 v2 : Value} (hgd : o.guard = none) (s x : Operand)
    (ho : o.op = .call { callee := .builtin .append, args := #[s, x], argTypes := #[22, 22] }) (hty : o.type = 22) (hs : a.eval s = v1) (hx : a.eval x = v2) (hrun : Hid ((Builtin.append_ #[22, 22] 22 #[v1, v2]).run Tryz.prog w = .ok v w'))
    (h : wpList Tryz.prog ops Q rest (a.put o.dst v) w') : wpList Tryz.prog ops Q (o :: rest) a w := by
  refine wpList_plain hgd fun K hK => ?_
  have hr := hrun.out
  unfold Oper.wp
  simp [execOp, ho, resolve, invoke, builtin, hs, hx, hty, hr, Result.andThen]
  exact hK _ _ h
set_option maxRecDepth 20000 in
set_option maxHeartbeats 1000000 in
theorem bytes_n {a : Option Addr} {n k : Nat} {l : List Nat} {w : World} (h : Hid (Sln w a n l)) (hk : Hid (a = none → k = 0)) :
    Calls Tryz.prog 10 #[.slice a n k] w fun e w' => ∃ g N, e = .returned (.slice (some ⟨g, 0, none⟩) n N) ∧ Hid (N = n + 6 ∧ g = w.heap.size ∧ Blk w' g (l ++ marks) ∧ Below w.heap.size w w') := by
  have m := h.out.sli.2.1
  have e := h.out.len
  rw [← e] at m
  have mk := make_room n (by omega)
  have hb0 : Below w.heap.size w (w.alloc (.cells (madeCells #[.int .u8 0] (n + 6)) 5)) := (Below.refl _ _).alloc (Nat.le_refl _) _
  have own0 : (w.alloc (.cells (madeCells #[.int .u8 0] (n + 6)) 5)).ownsRow w.heap.size 5 1 (.slice (some ⟨w.heap.size, 0, none⟩) 0 (n + 6)) 0 [] := World.ownsRow_made w _ (n + 6) (Nat.le_refl _) (by unfold maxLen; omega) (by simp [size_madeCells])
  obtain ⟨w1, ap1, own1, gr1⟩ := app_fits own0 (h.out.below hb0) hk.out (by omega)
  rw [Nat.zero_add] at ap1 own1
  have hb1 : Below w.heap.size w w1 := hb0.grown gr1 (by simp) (fun k e => by simp at e; omega)
  have own1' := own1.alloc (.cells #[.int .u8 201, .int .u8 202, .int .u8 203, .int .u8 204, .int .u8 205, .int .u8 206] 5)
  have hb2 : Below w.heap.size w (w1.alloc (.cells #[.int .u8 201, .int .u8 202, .int .u8 203, .int .u8 204, .int .u8 205, .int .u8 206] 5)) := hb1.alloc hb1.size _
  have bm : Blk (w1.alloc (.cells #[.int .u8 201, .int .u8 202, .int .u8 203, .int .u8 204, .int .u8 205, .int .u8 206] 5)) w1.heap.size marks := by
    show (w1.heap.push _)[w1.heap.size]? = _
    simp [marks, bv]
  have sm := bm.sln (by decide) (by decide)
  obtain ⟨w2, ap2, own2, gr2⟩ := app_fits (c := 6) own1' sm (by simp) (by simp [marks])
  have hb3 : Below w.heap.size w w2 := hb2.grown gr2 hb2.size (fun k e => by simp at e; omega)
  have bf : Blk w2 w.heap.size (l ++ marks) := by
    have h6 : marks.length = 6 := rfl
    rw [h6] at own2
    have e2 : ([] ++ l.map bv ++ marks.map bv) = (l ++ marks).map bv := by simp
    rw [e2] at own2
    exact own_full own2
  have B3 : Hid (Below w.heap.size w w2) := hb3
  have BF : Hid (Blk w2 w.heap.size (l ++ marks)) := bf
  have h6 : marks.length = 6 := rfl
  rw [h6] at ap2
  have AP1 : Hid ((Builtin.append_ #[22, 22] 22 #[.slice (some ⟨w.heap.size, 0, none⟩) 0 (n + 6), .slice a n k]).run Tryz.prog (w.alloc (.cells (madeCells #[.int .u8 0] (n + 6)) 5)) = .ok (.slice (some ⟨w.heap.size, 0, none⟩) n (n + 6)) w1) := ap1
  have AP2 : Hid ((Builtin.append_ #[22, 22] 22 #[.slice (some ⟨w.heap.size, 0, none⟩) n (n + 6), .slice (some ⟨w1.heap.size, 0, none⟩) 6 6]).run Tryz.prog (w1.alloc (.cells #[.int .u8 201, .int .u8 202, .int .u8 203, .int .u8 204, .int .u8 205, .int .u8 206] 5)) = .ok (.slice (some ⟨w.heap.size, 0, none⟩) (n + 6) (n + 6)) w2) := ap2
  clear bf hb3 gr2 own2 sm bm hb2 own1' hb1 own1 gr1 own0 hb0 e h6 ap1 ap2
  go_enter Tryz.func10, Tryz.ntmps10
  go_wp2_with (first | (at_builtin; refine wpList_appB (by rfl) (.tmp 7) (.tmp 8) (by rfl) (by rfl) (by rfl) (by rfl) AP1 ?_) | (at_builtin; refine wpList_appB (by rfl) (.tmp 9) (.tmp 10) (by rfl) (by rfl) (by rfl) (by rfl) AP2 ?_))
  go_ret
  exact ⟨_, n + 6, rfl, rfl, rfl, BF.out, B3.out⟩
theorem marks_cell {w : World} {g n : Nat} {l : List Nat} (h : Blk w g (l ++ marks)) (hn : n = l.length) (i : Nat) (hi : i < 6) : w.cell? ⟨g, n + i, none⟩ = some (.int .u8 ((201 + i : Nat) : Int)) := by
  have h1 := h.cell (i := n + i) (by simp [marks]; omega)
  rw [h1]
  have h2 : (l ++ marks).getD (n + i) 0 = 201 + i := by
    simp only [List.getD]
    rw [List.getElem?_append_right (by omega)]
    have : n + i - l.length = i := by omega
    rw [this]
    match i, hi with
    | 0, _ => rfl
    | 1, _ => rfl
    | 2, _ => rfl
    | 3, _ => rfl
    | 4, _ => rfl
    | 5, _ => rfl
  rw [h2]
theorem blk_begin {w : World} {g n : Nat} {l : List Nat} (h : Blk w g (l ++ marks)) (hn : n = l.length) (h1 : ∀ x ∈ l, x < 256) (h2 : l.length ≤ 140737488354304) : Sln w (some ⟨g, 0, none⟩) n l :=
  ⟨hn, h1, h2, .inr ⟨g, 0, rfl, h.lt, fun i hi => by
    have h3 := h.row i (by simp; omega)
    rw [h3]
    have : (l ++ marks).getD i 0 = l.getD i 0 := by simp only [List.getD]; rw [List.getElem?_append_left hi]
    rw [this]⟩⟩
set_option maxHeartbeats 1000000 in
theorem kept_n {g n N k : Nat} {a : Option Addr} {l : List Nat} {w : World} (hB : Hid (Blk w g (l ++ marks))) (hN : Hid (N = n + 6)) (h : Hid (Sln w a n l)) :
    Calls Tryz.prog 15 #[.slice (some ⟨g, 0, none⟩) n N, .slice a n k] w fun e w' => e = .returned (.bool true) ∧ Hid (∃ n, w' = w.drewN n) := by
  have m := h.out.sli.2.1
  have e := h.out.len
  rw [← e] at m
  have sx : Hid (Sln w (some ⟨g, 0, none⟩) n l) := blk_begin hB.out e h.out.lt h.out.sli.2.1
  have hN2 := hN.out
  subst hN2
  have c1 : ∀ j, (convert 22 9 (.slice (some ⟨g, 0, none⟩) n (n + 6))).run Tryz.prog (w.drewN j) = .ok (.string (spell l)) (w.drewN j) := fun j => conv_n (sx.out.drewN j)
  have c2 : ∀ j, (convert 22 9 (.slice a n k)).run Tryz.prog (w.drewN j) = .ok (.string (spell l)) (w.drewN j) := fun j => conv_n (h.out.drewN j)
  have E : Hid (n = l.length) := e
  clear e
  go_enter Tryz.func15, Tryz.ntmps15
  go_wp2
  go_quiet (fail)
  clear c1 c2
  go_wp2
  obtain ⟨w2, hw2⟩ : ∃ w2, w2 = w.drewN nq := ⟨_, rfl⟩
  have Q : Hid (∃ k, w2 = w.drewN k) := ⟨nq, hw2⟩
  have M : Hid (∀ i, i < 6 → w2.cell? ⟨g, n + i, none⟩ = some (.int .u8 ((201 + i : Nat) : Int))) := by rw [hw2]; exact fun i hi => marks_cell (hB.out.drewN nq) E.out i hi
  rw [← hw2]
  clear hw2
  go_loop [6] (fun ti => ∃ k : Nat, k ≤ 6 ∧ ti = .int .i64 k) (fun ti => 6 - (intOf ti).toNat)
  case atStart => exact ⟨0, by omega, rfl⟩
  case round =>
    obtain ⟨k, hk, rfl⟩ := hrel
    by_cases hlt : k < 6
    · have c3 := M.out k hlt
      have i1 : (k : Int) < 6 := by omega
      go_wp2
      go_round
      case rel => exact ⟨k + 1, by omega, by go_num⟩
      case measure => simp [intOf]; omega
    · go_wp2
      go_ret
      exact ⟨rfl, Q.out⟩
theorem app_oneB (w : World) (B g k cap x : Nat) (l : List Nat) (own : w.ownsRow B 5 1 (.slice (some ⟨g, 0, none⟩) k cap) k (l.map bv)) (hB : B ≤ w.heap.size) (hk : k + 1 ≤ 140737488354304) :
    ∃ g' cap' w', (Builtin.append_ #[22, 22] 22 #[.slice (some ⟨g, 0, none⟩) k cap, .slice (some ⟨w.heap.size, 0, none⟩) 1 1]).run Tryz.prog (w.alloc (.cells #[.int .u8 (x : Int)] 5)) = .ok (.slice (some ⟨g', 0, none⟩) (k + 1) cap') w' ∧ w'.ownsRow B 5 1 (.slice (some ⟨g', 0, none⟩) (k + 1) cap') (k + 1) ((l ++ [x]).map bv) ∧ (w.alloc (.cells #[.int .u8 (x : Int)] 5)).grownBy w' (some g) := by
  obtain ⟨i, hi, hz0, hz1, hz2⟩ := info_parts info5
  have b1 : Blk (w.alloc (.cells #[.int .u8 (x : Int)] 5)) w.heap.size [x] := by
    show (w.heap.push _)[w.heap.size]? = _
    simp [bv]
  obtain ⟨v', w', hrun, hown, hgr, _⟩ := run_append_own (P := Tryz.prog) (w.alloc (.cells #[.int .u8 (x : Int)] 5)) B 22 22 5 i (.int .u8 0) 1 1 Tryz.underlying22 hi hz0 hz1 hz2 rfl (by decide) _ k (l.map bv) (own.alloc _) ⟨w.heap.size, 0, none⟩ 1 1 ([x].map bv) rfl (map_cells b1.row) (map_one _) (by unfold maxLen; omega) (by omega) (by simp; omega)
  rcases hown.2 with ⟨_, h0⟩ | ⟨g', cap', cur, rfl, _⟩
  · omega
  · refine ⟨g', cap', w', hrun, ?_, hgr⟩
    rw [List.map_append]
    exact hown
theorem own_lt {w : World} {B g k cap : Nat} {xs : List Value} (own : w.ownsRow B 5 1 (.slice (some ⟨g, 0, none⟩) k cap) k xs) : B ≤ g := (own.lt g rfl).1
theorem own_sln {w : World} {B g k cap : Nat} {l : List Nat} (own : w.ownsRow B 5 1 (.slice (some ⟨g, 0, none⟩) k cap) k (l.map bv)) (h1 : ∀ x ∈ l, x < 256) (h2 : l.length ≤ 140737488354304) : Sln w (some ⟨g, 0, none⟩) k l := by
  have hk : k = l.length := by have := own.1; simp at this; omega
  refine ⟨hk, h1, h2, .inr ⟨g, 0, rfl, (own.lt g rfl).2, fun i hi => ?_⟩⟩
  have h3 := own.cells (g := g) rfl i (bv (l.getD i 0)) (by
    rw [List.getElem?_map, List.getElem?_eq_getElem hi]
    simp [List.getD, hi])
  have h4 : (⟨g, 0, none⟩ : Addr).add i = ⟨g, 0 + i, none⟩ := by
    by_cases hi0 : i = 0
    · subst hi0; simp [Addr.add]
    · simp [Addr.add, hi0]
  rw [h4] at h3
  exact h3
theorem take_succ_getD {l : List Nat} {k : Nat} (h : k < l.length) : l.take (k + 1) = l.take k ++ [l.getD k 0] := by
  rw [List.take_succ_eq_append_getElem h]
  simp [List.getD, h]
theorem row_at {w : World} {a : Option Addr} {n : Nat} {l : List Nat} (h : Sln w a n l) {i : Nat} (hi : i < n) : ∃ b off, a = some ⟨b, off, none⟩ ∧ w.cell? ⟨b, off + i, none⟩ = some (.int .u8 (l.getD i 0 : Nat)) := by
  have e := h.len
  have hne : l ≠ [] := by intro h0; rw [h0] at e; simp at e; omega
  obtain ⟨b, off, h1, _, r⟩ := h.sli.2.2.resolve_left hne
  exact ⟨b, off, h1, r i (by omega)⟩
end Go.Proofs.YtemhhlongfabmaaGreatDoor
