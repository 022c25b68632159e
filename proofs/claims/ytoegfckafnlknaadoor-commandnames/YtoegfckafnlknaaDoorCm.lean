/- CommandNames: the walk; arguments: a string, an id. -/
import Derived.Test.YtoegfckafnlknaaDoorCl
namespace Go.Proofs.YtoegfckafnlknaaDoor
open Go.ChangeShapes Go.WideShapes Go.ChangeAt Go.RowKit
set_option maxRecDepth 20000
set_option linter.unusedVariables false
set_option linter.unusedSimpArgs false
noncomputable def ops7 : Array Oper := match Tryd.f7.body with
  | some c => match regIn 3 c with
    | some o => o
    | none => #[]
  | none => #[]
structure Nz (w W : World) (g : Nat) (a b c : Int) : Prop where
  h : W.heap[g]? = some (.cells #[.int .i64 a, .int .i64 b, .int .i64 c] 23 (0, 0))
  bel : Below w.heap.size w W
theorem Nz.below {w W W' : World} {g : Nat} {a b c : Int} (h : Nz w W g a b c) (hb : Below W.heap.size W W') : Nz w W' g a b c :=
  ⟨(hb.block _ (Array.getElem?_eq_some_iff.1 h.h).1).trans h.h, h.bel.trans (hb.mono h.bel.size)⟩
theorem Nz.c0 {w W : World} {g : Nat} {a b c : Int} (h : Nz w W g a b c) : W.cell? ⟨g, 0, none⟩ = some (.int .i64 a) := by simp [World.cell?, h.h]
theorem Nz.c1 {w W : World} {g : Nat} {a b c : Int} (h : Nz w W g a b c) : W.cell? ⟨g, 1, none⟩ = some (.int .i64 b) := by simp [World.cell?, h.h]
theorem Nz.c2 {w W : World} {g : Nat} {a b c : Int} (h : Nz w W g a b c) : W.cell? ⟨g, 2, none⟩ = some (.int .i64 c) := by simp [World.cell?, h.h]
theorem eqB (d : Nat) (x : Bool) (w : World) : (Op.equalIn (d + 1) 4 (.bool x) (.bool x)).run Tryd.prog w = .ok true w := by
  simp [Op.equalIn, Tryd.underlying4]
set_option maxHeartbeats 4000000 in
theorem names_n (s : ByteArray) (hs : s.size ≤ 281474976710656) (a b c : Int) (w : World) : Calls Tryd.prog 7 #[.string s, .agg #[.int .i64 a, .int .i64 b, .int .i64 c]] w fun e w' => e = .returned (.bool true) ∧ Hid (Below w.heap.size w w') := by
  obtain ⟨g, Hg⟩ : ∃ g, Hid (w.heap.size = g) := ⟨_, rfl⟩
  obtain ⟨w1, Hw1⟩ : ∃ w1, Hid (w.alloc (.cells #[.int .i64 a, .int .i64 b, .int .i64 c] 23) = w1) := ⟨_, rfl⟩
  have B1 : Hid (Below w.heap.size w w1) := by rw [← Hw1.out]; exact alloc1 w _
  have k1 : Hid (w1.heap[g]? = some (.cells #[.int .i64 a, .int .i64 b, .int .i64 c] 23 (0, 0))) := by rw [← Hw1.out, ← Hg.out]; exact heap_alloc_new w _
  obtain ⟨x1, H1⟩ : ∃ x, Hid (gdN s = x) := ⟨_, rfl⟩
  obtain ⟨x2, H2⟩ : ∃ x, Hid (gdK s = x) := ⟨_, rfl⟩
  obtain ⟨x3, H3⟩ : ∃ x, Hid (gdI a b c = x) := ⟨_, rfl⟩
  go_enter Tryd.func7, Tryd.ntmps7
  go_upto_region 1 with (fail)
  rw [Hw1.out, Hg.out]
  go_upto_region 3 with (go_at_call 9; refine (alive_n _).mono ?_; rintro e w2 ⟨rfl, h2⟩)
  obtain ⟨w3, Hw3⟩ : ∃ w3, Hid (w2.drew = w3) := ⟨_, rfl⟩
  have HC : Hid (Nz w w3 g a b c) := by
    have f1 : Nz w w1 g a b c := ⟨k1.out, B1.out⟩
    rw [← Hw3.out]
    exact (f1.below h2.out).below (Below.refl _ _).drew
  clear h2 k1 B1
  refine wp_region_seq (ops := ops7) (C := fun W => Nz w W g a b c) [(0, false), (2, false), (1, true), (3, true), (4, false), (5, false), (6, false), (8, false), (7, true), (9, true), (10, false), (11, false), (12, false), (13, false), (15, false), (14, true), (16, true), (17, false), (18, false), (19, false)] (by kernel_rfl) (by kernel_rfl) (by rw [Hw3.out]; exact HC.out) ?_
  rw [Hw3.out]
  clear Hw3
  refine seq_take (o := { dst := some 7, op := Go.Op.move (Go.Operand.tmp 0), type := 9, pos := "law.go:96", after := #[], guard := none }) (v := .string s) (by kernel_rfl) (fun _ _ _ h => h) (Or.inl ⟨by kernel_rfl, fun W hW => by go_simp⟩) ?_
  simp only [List.getElem_toArray, List.getElem_cons_zero, List.getElem_cons_succ, Act.put, List.setIfInBounds_toArray, List.set_cons_zero, List.set_cons_succ]
  refine seq_take (o := { dst := some 9, op := Go.Op.move (Go.Operand.tmp 0), type := 9, pos := "law.go:96", after := #[], guard := none }) (v := .string s) (by kernel_rfl) (fun _ _ _ h => h) (Or.inl ⟨by kernel_rfl, fun W hW => by go_simp⟩) ?_
  simp only [List.getElem_toArray, List.getElem_cons_zero, List.getElem_cons_succ, Act.put, List.setIfInBounds_toArray, List.set_cons_zero, List.set_cons_succ]
  refine seq_call (o := { dst := some 8, op := Go.Op.call { callee := Go.Callee.value (Go.Operand.func 26), args := #[Go.Operand.tmp 7], argTypes := #[9] }, type := 4, pos := "law.go:96", after := #[{ on := 0, ground := Go.Ground.data }], guard := none }) (by kernel_rfl) (fun K hK => ?_)
  rw [if_pos (by kernel_rfl)]
  go_simp
  go_wp2_with (go_at_call 26; refine (goodBucket_n s _).mono ?_; rintro e w0 ⟨rfl, h0⟩; rw [h0, H1.out]; clear h0)
  refine hK.out _ _ HC.out ?_
  clear hK K
  try simp only [List.getElem_toArray, List.getElem_cons_zero, List.getElem_cons_succ, Act.put, List.setIfInBounds_toArray, List.set_cons_zero, List.set_cons_succ]
  refine seq_call (o := { dst := some 10, op := Go.Op.call { callee := Go.Callee.value (Go.Operand.func 27), args := #[Go.Operand.tmp 9], argTypes := #[9] }, type := 4, pos := "law.go:96", after := #[{ on := 2, ground := Go.Ground.data }, { on := 1, ground := Go.Ground.chain }], guard := none }) (by kernel_rfl) (fun K hK => ?_)
  rw [if_pos (by kernel_rfl)]
  go_simp
  go_wp2_with (go_at_call 27; refine (refBucket_n s hs _).mono ?_; rintro e w0 ⟨rfl, h0⟩; rw [h0, H1.out]; clear h0)
  refine hK.out _ _ HC.out ?_
  clear hK K
  try simp only [List.getElem_toArray, List.getElem_cons_zero, List.getElem_cons_succ, Act.put, List.setIfInBounds_toArray, List.set_cons_zero, List.set_cons_succ]
  refine seq_take (o := { dst := some 11, op := Go.Op.binOp Go.BinOp.eql 4 (Go.Operand.tmp 8) (Go.Operand.tmp 10) 4, type := 4, pos := "law.go:96", after := #[{ on := 1, ground := Go.Ground.data }, { on := 3, ground := Go.Ground.data }], guard := none }) (v := .bool true) (by kernel_rfl) (fun _ _ _ h => h) (Or.inl ⟨by kernel_rfl, fun W hW => by have q0 := fun d x w => eqB d x w; go_simp⟩) ?_
  simp only [List.getElem_toArray, List.getElem_cons_zero, List.getElem_cons_succ, Act.put, List.setIfInBounds_toArray, List.set_cons_zero, List.set_cons_succ]
  refine seq_take (o := { dst := some 12, op := Go.Op.move (Go.Operand.tmp 11), type := 4, pos := "law.go:96", after := #[{ on := 4, ground := Go.Ground.data }, { on := 3, ground := Go.Ground.chain }], guard := none }) (v := .bool true) (by kernel_rfl) (fun _ _ _ h => h) (Or.inl ⟨by kernel_rfl, fun W hW => by go_simp⟩) ?_
  simp only [List.getElem_toArray, List.getElem_cons_zero, List.getElem_cons_succ, Act.put, List.setIfInBounds_toArray, List.set_cons_zero, List.set_cons_succ]
  refine seq_take (o := { dst := some 13, op := Go.Op.move (Go.Operand.tmp 0), type := 9, pos := "law.go:96", after := #[{ on := 5, ground := Go.Ground.guard }], guard := some (5, true) }) (v := .string s) (by kernel_rfl) (fun _ _ _ h => h) (Or.inl ⟨by kernel_rfl, fun W hW => by go_simp⟩) ?_
  simp only [List.getElem_toArray, List.getElem_cons_zero, List.getElem_cons_succ, Act.put, List.setIfInBounds_toArray, List.set_cons_zero, List.set_cons_succ]
  refine seq_take (o := { dst := some 15, op := Go.Op.move (Go.Operand.tmp 0), type := 9, pos := "law.go:96", after := #[{ on := 5, ground := Go.Ground.guard }], guard := some (5, true) }) (v := .string s) (by kernel_rfl) (fun _ _ _ h => h) (Or.inl ⟨by kernel_rfl, fun W hW => by go_simp⟩) ?_
  simp only [List.getElem_toArray, List.getElem_cons_zero, List.getElem_cons_succ, Act.put, List.setIfInBounds_toArray, List.set_cons_zero, List.set_cons_succ]
  refine seq_call (o := { dst := some 14, op := Go.Op.call { callee := Go.Callee.value (Go.Operand.func 28), args := #[Go.Operand.tmp 13], argTypes := #[9] }, type := 4, pos := "law.go:96", after := #[{ on := 6, ground := Go.Ground.data }, { on := 5, ground := Go.Ground.chain }, { on := 5, ground := Go.Ground.guard }], guard := some (5, true) }) (by kernel_rfl) (fun K hK => ?_)
  rw [if_pos (by kernel_rfl)]
  go_simp
  go_wp2_with (go_at_call 28; refine (goodKey_n s _).mono ?_; rintro e w0 ⟨rfl, h0⟩; rw [h0, H2.out]; clear h0)
  refine hK.out _ _ HC.out ?_
  clear hK K
  try simp only [List.getElem_toArray, List.getElem_cons_zero, List.getElem_cons_succ, Act.put, List.setIfInBounds_toArray, List.set_cons_zero, List.set_cons_succ]
  refine seq_call (o := { dst := some 16, op := Go.Op.call { callee := Go.Callee.value (Go.Operand.func 29), args := #[Go.Operand.tmp 15], argTypes := #[9] }, type := 4, pos := "law.go:96", after := #[{ on := 8, ground := Go.Ground.data }, { on := 7, ground := Go.Ground.chain }, { on := 5, ground := Go.Ground.guard }], guard := some (5, true) }) (by kernel_rfl) (fun K hK => ?_)
  rw [if_pos (by kernel_rfl)]
  go_simp
  go_wp2_with (go_at_call 29; refine (refKey_n s hs _).mono ?_; rintro e w0 ⟨rfl, h0⟩; rw [h0, H2.out]; clear h0)
  refine hK.out _ _ HC.out ?_
  clear hK K
  try simp only [List.getElem_toArray, List.getElem_cons_zero, List.getElem_cons_succ, Act.put, List.setIfInBounds_toArray, List.set_cons_zero, List.set_cons_succ]
  refine seq_take (o := { dst := some 17, op := Go.Op.binOp Go.BinOp.eql 4 (Go.Operand.tmp 14) (Go.Operand.tmp 16) 4, type := 4, pos := "law.go:96", after := #[{ on := 7, ground := Go.Ground.data }, { on := 9, ground := Go.Ground.data }, { on := 5, ground := Go.Ground.guard }], guard := some (5, true) }) (v := .bool true) (by kernel_rfl) (fun _ _ _ h => h) (Or.inl ⟨by kernel_rfl, fun W hW => by have q0 := fun d x w => eqB d x w; go_simp⟩) ?_
  simp only [List.getElem_toArray, List.getElem_cons_zero, List.getElem_cons_succ, Act.put, List.setIfInBounds_toArray, List.set_cons_zero, List.set_cons_succ]
  refine seq_take (o := { dst := some 18, op := Go.Op.pick (Go.Operand.tmp 12) (Go.Operand.tmp 17) (Go.Operand.const (Go.Value.bool false)), type := 4, pos := "law.go:96", after := #[{ on := 5, ground := Go.Ground.data }, { on := 10, ground := Go.Ground.data }], guard := none }) (v := .bool true) (by kernel_rfl) (fun _ _ _ h => h) (Or.inl ⟨by kernel_rfl, fun W hW => by go_simp⟩) ?_
  simp only [List.getElem_toArray, List.getElem_cons_zero, List.getElem_cons_succ, Act.put, List.setIfInBounds_toArray, List.set_cons_zero, List.set_cons_succ]
  refine seq_take (o := { dst := some 19, op := Go.Op.move (Go.Operand.tmp 18), type := 4, pos := "law.go:96", after := #[{ on := 11, ground := Go.Ground.data }, { on := 9, ground := Go.Ground.chain }], guard := none }) (v := .bool true) (by kernel_rfl) (fun _ _ _ h => h) (Or.inl ⟨by kernel_rfl, fun W hW => by go_simp⟩) ?_
  simp only [List.getElem_toArray, List.getElem_cons_zero, List.getElem_cons_succ, Act.put, List.setIfInBounds_toArray, List.set_cons_zero, List.set_cons_succ]
  refine seq_take (o := { dst := some 20, op := Go.Op.load 23 (Go.Operand.tmp 3), type := 23, pos := "law.go:96", after := #[{ on := 12, ground := Go.Ground.guard }], guard := some (12, true) }) (v := .agg #[.int .i64 a, .int .i64 b, .int .i64 c]) (by kernel_rfl) (fun _ _ _ h => h) (Or.inl ⟨by kernel_rfl, fun W hW => by have q0 := hW.c0; have q1 := hW.c1; have q2 := hW.c2; go_simp⟩) ?_
  simp only [List.getElem_toArray, List.getElem_cons_zero, List.getElem_cons_succ, Act.put, List.setIfInBounds_toArray, List.set_cons_zero, List.set_cons_succ]
  refine seq_take (o := { dst := some 22, op := Go.Op.load 23 (Go.Operand.tmp 3), type := 23, pos := "law.go:96", after := #[{ on := 12, ground := Go.Ground.guard }], guard := some (12, true) }) (v := .agg #[.int .i64 a, .int .i64 b, .int .i64 c]) (by kernel_rfl) (fun _ _ _ h => h) (Or.inl ⟨by kernel_rfl, fun W hW => by have q0 := hW.c0; have q1 := hW.c1; have q2 := hW.c2; go_simp⟩) ?_
  simp only [List.getElem_toArray, List.getElem_cons_zero, List.getElem_cons_succ, Act.put, List.setIfInBounds_toArray, List.set_cons_zero, List.set_cons_succ]
  refine seq_call (o := { dst := some 21, op := Go.Op.call { callee := Go.Callee.value (Go.Operand.func 30), args := #[Go.Operand.tmp 20], argTypes := #[23] }, type := 4, pos := "law.go:96", after := #[{ on := 13, ground := Go.Ground.data }, { on := 12, ground := Go.Ground.chain }, { on := 12, ground := Go.Ground.guard }], guard := some (12, true) }) (by kernel_rfl) (fun K hK => ?_)
  rw [if_pos (by kernel_rfl)]
  go_simp
  go_wp2_with (go_at_call 30; refine (goodId_n a b c _).mono ?_; rintro e w114 ⟨rfl, h0⟩; rw [H3.out])
  have h9 : Below w3.heap.size w3 w114 := by rw [h0.out]; exact alloc1 _ _
  have HD := HC.out.below h9
  clear h0 h9
  refine hK.out _ _ HD ?_
  clear hK K HC
  have HC : Hid (Nz w w114 g a b c) := HD
  clear HD
  try simp only [List.getElem_toArray, List.getElem_cons_zero, List.getElem_cons_succ, Act.put, List.setIfInBounds_toArray, List.set_cons_zero, List.set_cons_succ]
  refine seq_call (o := { dst := some 23, op := Go.Op.call { callee := Go.Callee.value (Go.Operand.func 31), args := #[Go.Operand.tmp 22], argTypes := #[23] }, type := 4, pos := "law.go:96", after := #[{ on := 15, ground := Go.Ground.data }, { on := 14, ground := Go.Ground.chain }, { on := 12, ground := Go.Ground.guard }], guard := some (12, true) }) (by kernel_rfl) (fun K hK => ?_)
  rw [if_pos (by kernel_rfl)]
  go_simp
  go_wp2_with (go_at_call 31; refine (refGoodId_n a b c _).mono ?_; rintro e w116 ⟨rfl, h0⟩; rw [H3.out])
  have h9 : Below w114.heap.size w114 w116 := by rw [h0.out]; exact alloc1 _ _
  have HD := HC.out.below h9
  clear h0 h9
  refine hK.out _ _ HD ?_
  clear hK K HC
  have HC : Hid (Nz w w116 g a b c) := HD
  clear HD
  try simp only [List.getElem_toArray, List.getElem_cons_zero, List.getElem_cons_succ, Act.put, List.setIfInBounds_toArray, List.set_cons_zero, List.set_cons_succ]
  refine seq_take (o := { dst := some 24, op := Go.Op.binOp Go.BinOp.eql 4 (Go.Operand.tmp 21) (Go.Operand.tmp 23) 4, type := 4, pos := "law.go:96", after := #[{ on := 14, ground := Go.Ground.data }, { on := 16, ground := Go.Ground.data }, { on := 12, ground := Go.Ground.guard }], guard := some (12, true) }) (v := .bool true) (by kernel_rfl) (fun _ _ _ h => h) (Or.inl ⟨by kernel_rfl, fun W hW => by have q0 := fun d x w => eqB d x w; go_simp⟩) ?_
  simp only [List.getElem_toArray, List.getElem_cons_zero, List.getElem_cons_succ, Act.put, List.setIfInBounds_toArray, List.set_cons_zero, List.set_cons_succ]
  refine seq_take (o := { dst := some 25, op := Go.Op.pick (Go.Operand.tmp 19) (Go.Operand.tmp 24) (Go.Operand.const (Go.Value.bool false)), type := 4, pos := "law.go:96", after := #[{ on := 12, ground := Go.Ground.data }, { on := 17, ground := Go.Ground.data }], guard := none }) (v := .bool true) (by kernel_rfl) (fun _ _ _ h => h) (Or.inl ⟨by kernel_rfl, fun W hW => by go_simp⟩) ?_
  simp only [List.getElem_toArray, List.getElem_cons_zero, List.getElem_cons_succ, Act.put, List.setIfInBounds_toArray, List.set_cons_zero, List.set_cons_succ]
  refine seq_take (o := { dst := some 4, op := Go.Op.assign (Go.Operand.tmp 25), type := 4, pos := "law.go:96", after := #[{ on := 18, ground := Go.Ground.data }, { on := 16, ground := Go.Ground.chain }, { on := 0, ground := Go.Ground.phase }, { on := 1, ground := Go.Ground.phase }, { on := 2, ground := Go.Ground.phase }, { on := 3, ground := Go.Ground.phase }, { on := 4, ground := Go.Ground.phase }, { on := 5, ground := Go.Ground.phase }, { on := 6, ground := Go.Ground.phase }, { on := 7, ground := Go.Ground.phase }, { on := 8, ground := Go.Ground.phase }, { on := 9, ground := Go.Ground.phase }, { on := 10, ground := Go.Ground.phase }, { on := 11, ground := Go.Ground.phase }, { on := 12, ground := Go.Ground.phase }, { on := 13, ground := Go.Ground.phase }, { on := 14, ground := Go.Ground.phase }, { on := 15, ground := Go.Ground.phase }, { on := 16, ground := Go.Ground.phase }, { on := 17, ground := Go.Ground.phase }, { on := 18, ground := Go.Ground.phase }], guard := none }) (v := .bool true) (by kernel_rfl) (fun _ _ _ h => h) (Or.inl ⟨by kernel_rfl, fun W hW => by go_simp⟩) ?_
  simp only [List.getElem_toArray, List.getElem_cons_zero, List.getElem_cons_succ, Act.put, List.setIfInBounds_toArray, List.set_cons_zero, List.set_cons_succ]
  show (Exit.then _ _) .normal _ _
  have BE : Hid (Below w.heap.size w _) := HC.out.bel
  clear HC
  go_wp2
  go_ret
  exact ⟨rfl, BE.out⟩
def I64 (a : Int) : Prop := -9223372036854775808 ≤ a ∧ a ≤ 9223372036854775807
theorem cell3 {W : World} {r : Reach} {base : Nat} {v : Value} (h : Cell.okWide Tryd.prog W r base 3 v) : ∃ x, v = .int .i64 x ∧ I64 x := by
  simp only [Tryd.underlying3, Cell.okWide] at h
  cases v <;> simp_all [Cell.ok]
  exact h.2
theorem types23 : Tryd.prog.cellTypes Tryd.prog.depth 23 = some [3, 3, 3] := by kernel_rfl
theorem cells23 : Tryd.prog.cellsOf 23 = 3 := by kernel_rfl
theorem open23 {W : World} {r : Reach} {base : Nat} {v : Value} (h : Value.okWide Tryd.prog W r base 23 v) : ∃ a b c : Int, v = .agg #[.int .i64 a, .int .i64 b, .int .i64 c] := by
  simp only [Value.okWide, Tryd.underlying23] at h
  obtain ⟨cs, rfl, hn, ts, ht, _, hc⟩ := h
  rw [types23] at ht
  obtain rfl := Option.some.inj ht
  rw [cells23] at hn
  obtain ⟨l⟩ := cs
  have all : ∀ (i : Nat) (v : Value), l[i]? = some v → ∃ x, v = .int .i64 x ∧ I64 x := fun i v hv => by
    obtain ⟨u, hu, hk⟩ := hc i v (by simpa using hv)
    have hu3 : u = 3 := by
      have h5 : i % 3 < 3 := Nat.mod_lt _ (by omega)
      have hu' : ([3, 3, 3] : List Nat)[i % 3]? = some u := hu
      rcases (by omega : i % 3 = 0 ∨ i % 3 = 1 ∨ i % 3 = 2) with h | h | h <;> rw [h] at hu' <;> simpa using hu'.symm
    subst hu3
    exact cell3 hk
  match l, hn with
  | [c0, c1, c2], _ =>
    obtain ⟨a, rfl, _⟩ := all 0 c0 rfl
    obtain ⟨b, rfl, _⟩ := all 1 c1 rfl
    obtain ⟨c, rfl, _⟩ := all 2 c2 rfl
    exact ⟨a, b, c, rfl⟩
section
variable {H : Type} {enc : TypeId × Value → H} {W : World} {fuel : Nat} {y : DataW H × List MemPlace}
theorem open_str {v : Value} (hf : DataW.trod enc Tryd.prog W 0 (fun _ => true) true fuel 9 [v] = some y) (hsz : ∀ n ∈ y.1.weights Tryd.prog 9, n ≤ reachBytes) : ∃ s : ByteArray, v = .string s ∧ s.size ≤ 281474976710656 := by
  obtain ⟨z, h1, h2, _⟩ := DataW.trod_string Tryd.underlying9 hf
  simp at h1
  subst h1
  refine ⟨z, rfl, ?_⟩
  rw [h2] at hsz
  have h := hsz z.data.toList.length (by simp [DataW.weights])
  have e : z.data.toList.length = z.size := by rw [Array.length_toList]; rfl
  rw [e] at h
  simp only [reachBytes] at h
  omega
end
end Go.Proofs.YtoegfckafnlknaaDoor
