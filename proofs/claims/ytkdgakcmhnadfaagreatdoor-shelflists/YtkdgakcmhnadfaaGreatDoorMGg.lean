import Derived.Test.YtkdgakcmhnadfaaGreatDoorMGd
import Derived.Test.YtkdgakcmhnadfaaGreatDoorMOr
import Derived.Laws.Cover3
/- Gg -/
/- A region of a round, walked as everywhere. -/
namespace Go.Proofs.YtkdgakcmhnadfaaGreatDoor
open Go.ChangeShapes Go.WideShapes Go.ChangeAt Go.RowKit Go.Shelf
set_option maxRecDepth 20000
set_option linter.unusedVariables false
set_option linter.unusedSimpArgs false
def isDefer : Op → Bool
  | .defer _ => true
  | _ => false
theorem opIn_of {l N : Nat} {P : Program} {o : Oper} {a : Act} {w : World} {K : Act → World → Prop} {Q : Exit → Act → World → Prop} (hd : isDefer o.op = false) (h : o.wp P a w K Q) : o.wpIn (Fence.wide.inRound l) N P a w K Q := by
  unfold Oper.wp at h
  unfold Oper.wpIn
  refine ⟨fun _ _ => trivial, ?_⟩
  rw [Oper.semAt_plain _ _ _ (fun c e => by rw [e] at hd; cases hd)]
  cases hr : (execOp a.eval o).run P w with
  | ok x w' =>
    rw [hr] at h
    cases x with
    | value v => exact h
    | skip => exact h
    | defer d => exact h
    | enter f args => exact ⟨(fun h => by cases h), CallsIn.inRound l (callsIn_wide.2 h)⟩
    | row r args =>
      refine ⟨(fun h => by cases h), fun c cs _ => ?_⟩
      obtain ⟨v, w2, h1, h2⟩ := h c cs
      exact ⟨v, w2, h1, stepsIn_wide.2 h2⟩
    | _ => exact h.elim
  | halt x w' =>
    rw [hr] at h
    cases x with
    | panic v => exact h
    | _ => exact h.elim
theorem anyIn_of {l N : Nat} {P : Program} {md : Region.Mode} {ops : Array Oper} {Q : Exit → Act → World → Prop} (hnd : ops.all (fun o => !isDefer o.op) = true) (hQ : ¬ LetsOut Q) : ∀ (f : Nat) (L : Array Bool) (a : Act) (w : World), wpAny P md ops Q f L a w → wpAnyIn (Fence.wide.inRound l) N P md ops Q f L a w
  | 0, _, _, _, h => h
  | f + 1, L, a, w, h => by
    refine ⟨h.1, fun i hi => ?_⟩
    have h1 := h.2 i hi
    unfold wpOp at h1
    unfold wpOpIn
    cases ho : ops[i]? with
    | none => rw [ho] at h1; exact anyIn_of hnd hQ f _ a w h1
    | some o =>
      rw [ho] at h1
      have hd : isDefer o.op = false := by
        have h2 := (Array.all_eq_true_iff_forall_mem.1 hnd) o (Array.mem_of_getElem? ho)
        simpa using h2
      dsimp only at h1 ⊢
      split
      · rename_i hw
        rw [if_pos hw] at h1
        rcases h1 with h1 | h1
        · exact Oper.wpIn_mono (fun a' w' h' => anyIn_of hnd hQ f _ a' w' h') (opIn_of hd h1)
        · exact absurd h1.2 hQ
      · rename_i hw
        rw [if_neg hw] at h1
        exact ⟨fun _ _ => trivial, anyIn_of hnd hQ f _ _ w h1⟩
/- a region that draws, in a round -/
theorem regionIn_any {l N id : Nat} {P : Program} {ops : Array Oper} {Q : Exit → Act → World → Prop} {a : Act} {w : World} (hm : P.follows .mixedOrders = true) (hnd : ops.all (fun o => !isDefer o.op) = true) (R : Act → World → Prop) (hR : ∀ a w, R a w → Q .normal a w)
    (h : wpAny P .any ops (Exit.then R (fun _ _ _ => False)) ops.size (Array.replicate ops.size false) a w.drew) : (Code.region id ops true).wpIn (Fence.wide.inRound l) N P Q a w := by
  refine wpIn_mono (wpIn_region_any hm (anyIn_of hnd (fun h => ?_) _ _ _ _ h)) ?_
  · obtain ⟨a, w, h⟩ := h
    exact h
  · intro e a w h
    cases e with
    | normal => exact hR a w h
    | _ => exact h.elim
end Go.Proofs.YtkdgakcmhnadfaaGreatDoor

/- Gh -/
/- shardOf of package frame. -/
namespace Go.Proofs.YtkdgakcmhnadfaaGreatDoor
open Go.ChangeShapes Go.WideShapes Go.ChangeAt Go.RowKit Go.Shelf
set_option maxRecDepth 20000
set_option linter.unusedVariables false
set_option linter.unusedSimpArgs false
attribute [local go_sem] Oper.semAt_some
theorem part_cs (d : List Nat) (j : Nat) (hj : j < d.length) (w : World) : (part 5 (cs .u8 d) (j * 1)).run Tryz.prog w = .ok (.int .u8 ((d.getD j 0 : Nat) : Int)) w := by
  have h2 : (cs .u8 d)[j]? = some (.int .u8 ((d.getD j 0 : Nat) : Int)) := by simp [cs, wv, List.getD, hj]
  simp [part, go_sem, h2]
theorem eqItems_any (d e : List Nat) (w : World) : ∀ is : List Nat, (∀ j ∈ is, j < d.length ∧ j < e.length) → (Op.eqItems 9999 5 1 (cs .u8 d) (cs .u8 e) is).run Tryz.prog w = .ok (is.all fun j => d.getD j 0 == e.getD j 0) w
  | [], _ => by simp [Op.eqItems]
  | j :: is, h => by
    have hj := h j (by simp)
    have ih := eqItems_any d e w is (fun x hx => h x (by simp [hx]))
    have e1 : (Op.equalIn 9999 5 (.int .u8 ((d.getD j 0 : Nat) : Int)) (.int .u8 ((e.getD j 0 : Nat) : Int))).run Tryz.prog w = .ok (d.getD j 0 == e.getD j 0) w := by
      rw [run_equalIn_int w 9998 5 .u8 .u8 _ _ Tryz.underlying5]
      congr 1
      rw [Bool.eq_iff_iff]
      simp
      omega
    simp only [Op.eqItems, Sem.run_bind, part_cs d j hj.1 w, part_cs e j hj.2 w, Result.andThen_ok, e1, List.all_cons]
    cases hb : (d.getD j 0 == e.getD j 0) with
    | false => simp
    | true =>
      simp only [Bool.not_true, Bool.false_eq_true, if_false, Bool.true_and]
      exact ih
theorem eq_arr (d e : List Nat) (hd : d.length = 32) (he : e.length = 32) (w : World) : (Op.equalIn 10000 89 (.agg (cs .u8 d)) (.agg (cs .u8 e))).run Tryz.prog w = .ok (decide (d = e)) w := by
  obtain ⟨i, hi, _⟩ := info_parts info5
  have h := run_equalIn_array (P := Tryz.prog) w 9999 (cs .u8 d) (cs .u8 e) Tryz.underlying89 hi
  have c : Tryz.prog.cellsOf 5 = 1 := cells5
  rw [c] at h
  rw [h, eqItems_any d e w _ (fun j hj => by rw [hd, he]; simpa using hj)]
  congr 1
  rw [Bool.eq_iff_iff]
  simp only [List.all_eq_true, List.mem_range, beq_iff_eq, decide_eq_true_eq]
  constructor
  · intro h
    apply List.ext_getElem (by omega)
    intro j h1 h2
    have h3 := h j (by omega)
    simpa [List.getD, h1, h2] using h3
  · intro h j _
    rw [h]
/- a body's pieces, their blocks and their digests -/
def pb (B : List Nat) (j : Nat) : List Nat := (B.drop (64 * j)).take 64
def pbk (B : List Nat) (j : Nat) : List Nat := (pb B j).take ((pb B j).length - 32)
def pbd (B : List Nat) (j : Nat) : List Nat := (pb B j).drop ((pb B j).length - 32)
def gdB (B : List Nat) (j : Nat) : Bool := decide (Gs.sum (pbk B j) = pbd B j)
def shK (B : List Nat) : Nat → List Nat
  | 0 => []
  | k + 1 => shK B k ++ pbk B k
def pcs (n : Nat) : Nat := (n + 63) / 64
theorem shK_len (B : List Nat) : ∀ k, (shK B k).length ≤ 64 * k ∧ (64 * k ≤ B.length + 31 → (shK B k).length ≤ B.length)
  | 0 => by simp [shK]
  | k + 1 => by
    have ih := shK_len B k
    have h1 : (pbk B k).length = min 64 (B.length - 64 * k) - 32 := by simp [pbk, pb]
    simp only [shK, List.length_append, h1]
    omega
end Go.Proofs.YtkdgakcmhnadfaaGreatDoor

/- Gi -/
/- shardOf of package frame, walked. -/
namespace Go.Proofs.YtkdgakcmhnadfaaGreatDoor
open Go.ChangeShapes Go.WideShapes Go.ChangeAt Go.RowKit Go.Shelf
set_option maxRecDepth 20000
set_option linter.unusedVariables false
set_option linter.unusedSimpArgs false
attribute [local go_sem] Oper.semAt_some
theorem Sln.rng {w : World} {b off n lo : Nat} {l d : List Nat} (h : Sln w (some ⟨b, off, none⟩) n l) (hd : d = (l.drop lo).take d.length) : Rng .u8 w b (off + lo) d := by
  intro j v hv
  obtain ⟨hj, he⟩ := List.getElem?_eq_some_iff.1 hv
  have hj2 : j < d.length := by simpa using hj
  have hl : lo + j < l.length := by
    have h1 := congrArg List.length hd
    simp at h1
    omega
  have ne : l ≠ [] := fun e => by rw [e] at hl; simp at hl
  obtain ⟨b', off', h1, _, r⟩ := h.sli.2.2.resolve_left ne
  cases h1
  have c := r (lo + j) hl
  rw [show off + lo + j = off + (lo + j) by omega, c, ← he]
  have e2 : d.getD j 0 = l.getD (lo + j) 0 := by
    have h3 : d[j]? = ((l.drop lo).take d.length)[j]? := by rw [← hd]
    simp only [List.getD]
    rw [h3, List.getElem?_take_of_lt hj2, List.getElem?_drop]
  simp only [List.getElem_map, wv]
  congr 2
  have h4 : d[j] = d.getD j 0 := by simp [List.getD, hj2]
  rw [h4, e2]
/- what shardOf's rounds keep -/
structure Sh (w : World) (B : List Nat) (a : Option Addr) (n R k j : Nat) (U : World) : Prop where
  bd : Bd w (shK B j) n (R + 2) (R + 3) k U
  r0 : Boxed U R 33 (.slice none 0 0)
  r1 : Boxed U (R + 1) 4 (.bool false)
  sl : Sln U a n B
  gd : ∀ i, i < j → gdB B i = true
structure Shx (w : World) (B : List Nat) (n R : Nat) (U : World) : Prop where
  r0 : Boxed U R 33 (.slice none 0 0)
  r1 : Boxed U (R + 1) 4 (.bool false)
  bel : Below w.heap.size w U
  gd : ∃ i, i < pcs n ∧ gdB B i = false
theorem sln_block {w w' : World} {m : Nat} {a : Option Addr} {n : Nat} {l : List Nat} (h : Sln w a n l) (hb : Below m w w') (hm : ∀ b off, l ≠ [] → a = some ⟨b, off, none⟩ → b < m) : Sln w' a n l := by
  refine ⟨h.len, h.sli.1, h.sli.2.1, ?_⟩
  by_cases hl : l = []
  · exact .inl hl
  · obtain ⟨b, off, h1, h2, r⟩ := h.sli.2.2.resolve_left hl
    have h3 := hm b off hl h1
    refine .inr ⟨b, off, h1, Nat.lt_of_lt_of_le h2 hb.size, fun i hi => (hb.cell (p := ⟨b, off + i, none⟩) h3).trans (r i hi)⟩
theorem Sh.keep {w : World} {B : List Nat} {a : Option Addr} {n R k j m : Nat} {A A' : World} (h : Sh w B a n R k j A) (hb : Below m A A') (h1 : R + 4 ≤ m) (h3 : 21 < m) (h4 : w.heap.size ≤ m) (h5 : ∀ b off, B ≠ [] → a = some ⟨b, off, none⟩ → b < m) : Sh w B a n R k j A' :=
  ⟨h.bd.keep hb (by omega) (by omega) h3 h4, (hb.block R (by omega)).trans h.r0, (hb.block (R + 1) (by omega)).trans h.r1, sln_block h.sl hb h5, h.gd⟩
theorem KeepB.more {C C' : Nat → Prop} {m : Nat} {bx : Option Nat} {A B : World} (h : KeepB C m bx A B) (hC : ∀ b, C b → C' b) : KeepB C' m bx A B := ⟨h.size, fun b o h1 h2 h3 h4 => h.same b o h1 (fun h5 => h2 (hC b h5)) h3 h4⟩
theorem Sln.keepB {C : Nat → Prop} {m : Nat} {A B : World} {a : Option Addr} {n : Nat} {l : List Nat} (h : Sln A a n l) (k : KeepB C m none A B) (hm : ∀ b off, l ≠ [] → a = some ⟨b, off, none⟩ → ¬ C b) : Sln B a n l := by
  refine ⟨h.len, h.sli.1, h.sli.2.1, ?_⟩
  by_cases hl : l = []
  · exact .inl hl
  · obtain ⟨b, off, h1, h2, r⟩ := h.sli.2.2.resolve_left hl
    exact .inr ⟨b, off, h1, Nat.lt_of_lt_of_le h2 k.size, fun i hi => k.cell (r i hi) (hm b off hl h1) (by simp)⟩
theorem pb_len (B : List Nat) (n j : Nat) (hn : n = B.length) : (pb B j).length = ckn n 64 j := by simp [pb, ckn, hn]
theorem boxed_put {W : World} {B D : Nat} {t : TypeId} {v : Value} {o : Obj} (h : Boxed W B t v) (hD : B ≠ D) : Boxed (W.putObj D o) B t v := (World.putObj_heap_other (by omega)).trans h
def ShEnd (w : World) (B : List Nat) (n : Nat) (e : Ending) (w' : World) : Prop := ∃ a' m c' ok, e = .returned (.tuple #[.slice a' m c', .bool ok]) ∧
  Hid (Below w.heap.size w w' ∧ ((ok = true ∧ (∀ i, i < pcs n → gdB B i = true) ∧ Own w' w.heap.size a' m c' (shK B (pcs n))) ∨ (ok = false ∧ (∃ i, i < pcs n ∧ gdB B i = false) ∧ a' = none ∧ m = 0 ∧ c' = 0)))
set_option maxHeartbeats 4000000 in
theorem shardOf_n {w : World} {a : Option Addr} {n c : Nat} {B : List Nat} (hS : Hid (Sln w a n B)) (hc : Hid (a = none → c = 0)) (hnc : n ≤ c) (hz : ∃ z, z ≤ 1024 ∧ n = z + 32 * blks z) (hK : Hid (Kst w)) (h0 : Hid (21 < w.heap.size)) :
    Calls Tryz.prog 90 #[.slice a n c] w fun e w' => ShEnd w B n e w' := by
  obtain ⟨z, hz1, hz2⟩ := hz
  have PL : Hid (n ≤ 2048 ∧ ∀ j, 64 * j < n → ∃ f, 1 ≤ f ∧ f ≤ 32 ∧ ckn n 64 j = f + 32) := by
    unfold blks at hz2
    refine ⟨by omega, fun j hj => ⟨ckn n 64 j - 32, ?_⟩⟩
    unfold ckn
    omega
  have hn : n ≤ 2048 := PL.out.1
  clear hz1 hz2
  refine (callsIn_wide (n := 20)).1 ?_
  refine callsIn_of_wp_marks Tryz.func90 rfl trivial ?_ rfl
  simp only [Tryz.ntmps90, List.size_toArray, List.length_cons, List.length_nil, Nat.reduceAdd, Nat.reduceSub, Array.replicate_succ, Array.replicate_zero, List.push_toArray, List.append_toArray, List.nil_append, List.cons_append]
  have EM := make_cap n (by omega)
  obtain ⟨R, HR⟩ : ∃ R, Hid (w.heap.size = R) := ⟨_, rfl⟩
  obtain ⟨W1, HW1⟩ : ∃ W1, Hid ((((w.alloc (.cells #[.slice none 0 0] 33)).alloc (.cells #[.bool false] 4)).alloc (.cells (madeCells #[.int .u8 0] n) 5)).alloc (.cells #[.slice (some ⟨w.heap.size + 1 + 1, 0, none⟩) 0 n] 33) = W1) := ⟨_, rfl⟩
  have bw : Below w.heap.size w W1 := by rw [← HW1.out]; exact ((((Below.refl _ w).alloc (Nat.le_refl _) _).alloc (by simp) _).alloc (by simp; omega) _).alloc (by simp; omega) _
  have D1 : Hid (Sh w B a n R 0 0 W1 ∧ W1.heap.size = R + 4) := by
    refine ⟨⟨⟨?_, rfl, ?_, hK.out.below bw h0.out, bw⟩, ?_, ?_, hS.out.below bw, fun i hi => by omega⟩, ?_⟩
    · rw [← HW1.out, ← HR.out]
      have h1 := World.ownsRow_made (base := w.heap.size + 1 + 1) (e := 5) (size := 1) ((w.alloc (.cells #[.slice none 0 0] 33)).alloc (.cells #[.bool false] 4)) (madeCells #[.int .u8 0] n) n (by simp) (by unfold maxLen; omega) (by simp [madeCells])
      simp only [World.size_alloc] at h1
      exact h1.alloc _
    · rw [← HW1.out, ← HR.out]
      have h1 := Boxed.new (((w.alloc (.cells #[.slice none 0 0] 33)).alloc (.cells #[.bool false] 4)).alloc (.cells (madeCells #[.int .u8 0] n) 5)) 33 (.slice (some ⟨w.heap.size + 1 + 1, 0, none⟩) 0 n)
      simp only [World.size_alloc] at h1
      exact h1
    · rw [← HW1.out, ← HR.out]
      exact (((Boxed.new w 33 _).alloc _).alloc _).alloc _
    · rw [← HW1.out, ← HR.out]
      have h1 := Boxed.new (w.alloc (.cells #[.slice none 0 0] 33)) 4 (.bool false)
      rw [World.size_alloc] at h1
      exact (h1.alloc _).alloc _
    · rw [← HW1.out, ← HR.out]; simp
  clear bw
  gi_wp2_with (refine ⟨trivial, ?_⟩; gi_at_call 118; rw [HW1.out]; refine (chunk_in Fence.wide _ trivial rfl _ _ _ 64 (by omega) _).mono ?_; rintro e V ⟨rfl, hV0⟩; have HV : Hid (V = (W1.alloc (.cells #[.slice a n c] 33)).alloc (.cells #[.int .i64 ((64 : Nat) : Int)] 3)) := hV0; clear hV0)
  have hV := HV.out
  have bV : Below W1.heap.size W1 V := by rw [hV]; exact ((Below.refl _ W1).alloc (Nat.le_refl _) _).alloc (by simp) _
  have sv : V.heap.size = R + 6 := by rw [hV]; simp [D1.out.2]
  have sV : Hid (V.heap.size = R + 6) := sv
  clear sv
  have c2 : V.cell? ⟨W1.heap.size, 0, none⟩ = some (.slice a n c) := by rw [hV]; exact ((Boxed.new W1 33 _).alloc _).cell
  have c3 : V.cell? ⟨W1.heap.size + 1, 0, none⟩ = some (.int .i64 ((64 : Nat) : Int)) := by
    have e := (Boxed.new (W1.alloc (.cells #[.slice a n c] 33)) 3 (.int .i64 ((64 : Nat) : Int))).cell
    rw [World.size_alloc] at e
    rw [hV]
    exact e
  have wR : Hid (21 < R ∧ w.heap.size ≤ R) := ⟨by rw [← HR.out]; exact h0.out, Nat.le_of_eq HR.out⟩
  have aB : Hid (∀ b off, B ≠ [] → a = some ⟨b, off, none⟩ → b < R) := by
    intro b off h1 h2
    obtain ⟨b', off', h3, h4, _⟩ := hS.out.sli.2.2.resolve_left h1
    rw [h3] at h2
    cases h2
    rw [← HR.out]
    exact h4
  have D2 : Sh w B a n R 0 0 V := D1.out.1.keep bV (by have := D1.out.2; omega) (by have := D1.out.2; have := wR.out; omega) (by have := D1.out.2; have := wR.out; omega) (fun b off h1 h2 => by have := aB.out b off h1 h2; have := D1.out.2; omega)
  obtain ⟨g, off, hg⟩ : ∃ g off, 0 < n → a = some ⟨g, off, none⟩ := by
    by_cases h : 0 < n
    · obtain ⟨b', off', h3, _⟩ := hS.out.sli.2.2.resolve_left (fun e => by have := hS.out.len; rw [e] at this; simp at this; omega)
      exact ⟨b', off', fun _ => h3⟩
    · exact ⟨0, 0, fun h' => absurd h' h⟩
  have hmo : Tryz.prog.follows .mixedOrders = true := by kernel_rfl
  have W4 : Hid (W1.heap.size = R + 4) := D1.out.2
  clear hV HV D1 bV
  refine rangeB (C := fun b => b = R ∨ b = R + 1 ∨ b = R + 2 ∨ b = R + 3) rfl (by omega) (gf := 147) (lb := #[.pointer (some ⟨W1.heap.size, 0, none⟩), .pointer (some ⟨W1.heap.size + 1, 0, none⟩)]) rfl trivial (enters_of Tryz.func147 (by kernel_rfl) rfl)
    (chunk_seq Fence.wide 19 trivial rfl (by omega) W1.heap.size (W1.heap.size + 1) g off n c 64 a hg (by omega) (by omega) hnc (by omega) _ ?c1 ?c2 V c2 c3) (Below.refl _ _) (fun _ => rfl) ?hC ?hbx ?hGd
    (fun pre U => ∃ k, Sh w B a n R k pre.length U)
    (fun c pre U => c = .ret ∧ Shx w B n R U) ?hI ?hIx ⟨0, D2⟩
    (fun x => { tmps := #[.slice a n c, undef, .pointer (some ⟨w.heap.size, 0, none⟩), .pointer (some ⟨w.heap.size + 1, 0, none⟩), .pointer (some ⟨w.heap.size + 1 + 1 + 1, 0, none⟩), ckv g off n 64 x.1, undef, undef, .slice a n c, .int .i64 (n : Int), .slice (some ⟨w.heap.size + 1 + 1, 0, none⟩) 0 n, .slice a n c, .func (.func 147) #[] #[.pointer (some ⟨W1.heap.size, 0, none⟩), .pointer (some ⟨W1.heap.size + 1, 0, none⟩)], ckv g off n 64 x.1, undef, undef, undef, undef, undef, undef, undef, undef, undef, undef, undef, undef, undef, undef, undef, undef, undef, undef], defers := [] }) ?assign ?body ?done ?stop
  case c1 => have := W4.out; intro h; omega
  case c2 => have := W4.out; intro h; omega
  case hC => have := sV.out; intro b h; omega
  case hbx => exact fun _ _ _ _ _ h => by cases h
  case hGd => exact fun _ _ _ _ _ _ h => h
  case hI =>
    rintro pre A A' ⟨k, h⟩ hb
    have h1 := sV.out
    have h2 := wR.out
    exact ⟨k, h.keep hb (by omega) (by omega) (by omega) (fun b o h3 h4 => by have := aB.out b o h3 h4; omega)⟩
  case hIx =>
    rintro c' pre A A' ⟨h1, h2⟩ hb
    have h3 := sV.out
    have h4 := wR.out
    exact ⟨h1, (hb.block R (by omega)).trans h2.r0, (hb.block (R + 1) (by omega)).trans h2.r1, h2.bel.trans (hb.mono (by omega)), h2.gd⟩
  case assign =>
    intro l' x U K' hK
    gi_wp2
    exact hK
  case body =>
    rintro l' pre x U hU ⟨k, hB⟩ hx
    obtain ⟨f, hf1, hf2, hf3⟩ := PL.out.2 x.1 x.2
    have hp : 0 < n := by have := x.2; omega
    have ha := hg hp
    have lB : Hid (n = B.length) := hS.out.len
    have L2 : Hid ((pb B x.1).length = f + 32) := by rw [pb_len B n x.1 lB.out]; exact hf3
    obtain ⟨q, Hq⟩ : ∃ q, Hid (off + 64 * x.1 = q) := ⟨_, rfl⟩
    obtain ⟨P, HP⟩ : ∃ P, Hid (pbk B x.1 = P) := ⟨_, rfl⟩
    obtain ⟨d2, HD⟩ : ∃ d2, Hid (pbd B x.1 = d2) := ⟨_, rfl⟩
    have d2l : d2.length = 32 := by rw [← HD.out]; simp [pbd, L2.out]
    have D2l : Hid (d2.length = 32) := d2l
    clear d2l
    have SP : Hid (Sln U (some ⟨g, q, none⟩) (f + 32) (pb B x.1)) := by
      have h1 := slice_from hB.sl (lo := 64 * x.1) (Nat.le_of_lt x.2) hnc
      have h2 := h1.take (k := f + 32) (by rw [← hf3]; unfold ckn; omega)
      rw [if_neg (by have := x.2; omega), ha] at h2
      have e4 : (some (⟨g, off, none⟩ : Addr)).map (·.add (64 * x.1)) = some ⟨g, q, none⟩ := by rw [← Hq.out]; simp [Addr.add]
      rw [e4] at h2
      have e5 : (B.drop (64 * x.1)).take (f + 32) = pb B x.1 := by
        have h3 := L2.out
        unfold pb at h3 ⊢
        by_cases h4 : 64 ≤ B.length - 64 * x.1
        · have : f + 32 = 64 := by simp at h3; omega
          rw [this]
        · simp at h3
          rw [List.take_of_length_le (by simp; omega), List.take_of_length_le (by simp; omega)]
      rw [e5] at h2
      exact h2
    have bdr : Below U.heap.size U U.drew := (Below.refl _ U).drew
    have S2 : Hid (Sln U.drew (some ⟨g, q, none⟩) f P) := by
      have h1 := (SP.out.take (k := f) (by omega)).below bdr
      have e1 : (pb B x.1).take f = P := by rw [← HP.out, pbk, L2.out]; simp
      rw [e1] at h1
      exact h1
    have S3 : Hid (∀ U1, Below U.drew.heap.size U.drew U1 → Rng .u8 U1 g (q + f) d2) := by
      intro U1 hb1
      have h1 := (SP.out.below bdr).below hb1
      refine h1.rng (lo := f) ?_
      rw [D2l.out, ← HD.out, pbd, L2.out]
      simp
      rw [List.take_of_length_le (by simp [L2.out])]
    have K2 : Hid (Kst U.drew) := hB.bd.kst.below bdr (by have := sV.out; have := wR.out; omega)
    have n19 : Hid (21 < U.drew.heap.size) := by have h1 := sV.out; have h2 := wR.out; have h3 : U.drew.heap.size = U.heap.size := rfl; show _ < _; omega
    have hS0 : Rng .u8 U.drew g (q + f) d2 := S3.out U.drew (Below.refl _ _)
    have HB : Hid (Sh w B a n R k pre.length U) := hB
    have HX : Hid (x.1 = pre.length ∧ 64 * x.1 < n) := ⟨hx, x.2⟩
    have HU : Hid (R + 6 ≤ U.heap.size) := by have h1 := sV.out; show _ ≤ _; omega
    have D2 : Hid (d2.length = 32) := D2l.out
    have cc : f ≤ f + 32 := by omega
    have H3 : Hid (ckn n 64 x.1 = f + 32) := hf3
    simp only [ckv]
    rw [H3.out, Hq.out, HR.out]
    clear hB hx ha hp SP bdr D2l hf3 H3 hS hg c2 c3 EM
    gi_wp2
    refine regionIn_any hmo (by kernel_rfl) (fun a' w' => ∃ d eb, a' = ⟨#[.slice a n c, undef, .pointer (some ⟨R, 0, none⟩), .pointer (some ⟨R + 1, 0, none⟩), .pointer (some ⟨R + 1 + 1 + 1, 0, none⟩), .slice (some ⟨g, q, none⟩) (f + 32) (f + 32), .int .i64 (f : Int), .slice (some ⟨g, q, none⟩) f (f + 32), .slice a n c, .int .i64 (n : Int), .slice (some ⟨R + 1 + 1, 0, none⟩) 0 n, .slice a n c, .func (.func 147) #[] #[.pointer (some ⟨W1.heap.size, 0, none⟩), .pointer (some ⟨W1.heap.size + 1, 0, none⟩)], .slice (some ⟨g, q, none⟩) (f + 32) (f + 32), .slice (some ⟨g, q, none⟩) (f + 32) (f + 32), .int .i64 ((f : Int) + 32), .int .i64 (f : Int), .slice (some ⟨g, q, none⟩) (f + 32) (f + 32), .int .i64 (f : Int), .slice (some ⟨g, q, none⟩) f (f + 32), .slice (some ⟨g, q, none⟩) f (f + 32), .agg (cs .u8 d), .slice (some ⟨g, q, none⟩) (f + 32) (f + 32), .int .i64 (f : Int), .slice (some ⟨g, q + f, none⟩) 32 32, .pointer (some ⟨g, q + f, none⟩), .agg (cs .u8 d2), .bool (!eb), undef, undef, undef, undef], []⟩ ∧ Hid (decide (d = d2) = eb ∧ (d = Gs.sum P ∧ Below U.drew.heap.size U.drew w'))) ?hR ?h
    case h =>
      refine wpAny_of_till (S := fun L W => Rng .u8 W g (q + f) d2) _ _ _ _ ?_
      have hS := hS0
      clear hS0
      refine till_take (i := 0) (v := .slice (some ⟨g, q, none⟩) f (f + 32)) rfl (by kernel_rfl) (by kernel_rfl) (by kernel_rfl) (fun _ _ _ h => h) (fun L w => Iff.rfl) (Or.inl ⟨by rfl, fun w => by go_simp⟩) hS (fun hSb => ?_)
      simp only [List.getElem_toArray, List.getElem_cons_zero, List.getElem_cons_succ, Act.put, List.setIfInBounds_toArray, List.set_cons_zero, List.set_cons_succ]
      clear hS
      refine till_take (i := 2) (v := .slice (some ⟨g, q, none⟩) (f + 32) (f + 32)) rfl (by kernel_rfl) (by kernel_rfl) (by kernel_rfl) (fun _ _ _ h => h) (fun L w => Iff.rfl) (Or.inl ⟨by rfl, fun w => by go_simp⟩) hSb (fun hS => ?_)
      simp only [List.getElem_toArray, List.getElem_cons_zero, List.getElem_cons_succ, Act.put, List.setIfInBounds_toArray, List.set_cons_zero, List.set_cons_succ]
      clear hSb
      refine till_take (i := 3) (v := .int .i64 (f : Int)) rfl (by kernel_rfl) (by kernel_rfl) (by kernel_rfl) (fun _ _ _ h => h) (fun L w => Iff.rfl) (Or.inl ⟨by rfl, fun w => by go_simp⟩) hS (fun hSb => ?_)
      simp only [List.getElem_toArray, List.getElem_cons_zero, List.getElem_cons_succ, Act.put, List.setIfInBounds_toArray, List.set_cons_zero, List.set_cons_succ]
      clear hS
      refine till_take (i := 4) (v := .slice (some ⟨g, q + f, none⟩) 32 32) rfl (by kernel_rfl) (by kernel_rfl) (by kernel_rfl) (fun _ _ _ h => h) (fun L w => Iff.rfl) (Or.inl ⟨by rfl, fun w => by go_simp; intro h; omega⟩) hSb (fun hS => ?_)
      simp only [List.getElem_toArray, List.getElem_cons_zero, List.getElem_cons_succ, Act.put, List.setIfInBounds_toArray, List.set_cons_zero, List.set_cons_succ]
      clear hSb
      refine till_take (i := 5) (v := .pointer (some ⟨g, q + f, none⟩)) rfl (by kernel_rfl) (by kernel_rfl) (by kernel_rfl) (fun _ _ _ h => h) (fun L w => Iff.rfl) (Or.inl ⟨by rfl, fun w => by go_simp; rw [run_arrayAt (P := Tryz.prog) (w := w) 89 5 32 (some ⟨g, q + f, none⟩) 32 32 Tryz.underlying89 (by omega)]; rfl⟩) hS (fun hSb => ?_)
      simp only [List.getElem_toArray, List.getElem_cons_zero, List.getElem_cons_succ, Act.put, List.setIfInBounds_toArray, List.set_cons_zero, List.set_cons_succ]
      clear hS
      refine till_read (i := 6) (c := 7) (v := .agg (cs .u8 d2)) (T := fun W => Rng .u8 W g (q + f) d2) rfl rfl (by kernel_rfl) (by kernel_rfl) (by kernel_rfl) (by kernel_rfl) (by kernel_rfl) (fun _ _ _ h => h) (fun L w => Iff.rfl) (fun L w h1 h2 => h2) (yieldsIf_ld (by rfl) 89 (.tmp 25) (by rfl) (by rfl) (fun w h => h) und25 (by rw [D2.out]; exact sz25)) hSb (fun hS => ?_)
      simp only [List.getElem_toArray, List.getElem_cons_zero, List.getElem_cons_succ, Act.put, List.setIfInBounds_toArray, List.set_cons_zero, List.set_cons_succ]
      clear hSb
      refine till_one (i := 1) (by kernel_rfl) rfl (fun K hK => ?_)
      simp only [List.getElem_toArray, List.getElem_cons_zero, List.getElem_cons_succ]
      rw [if_pos (by rfl)]
      go_simp
      go_wp2_with (go_at_call 119; refine (shsum_n S2 cc K2 n19).mono ?_; rintro e U1 ⟨d, rfl, H1⟩)
      refine hK.out _ _ (S3.out U1 H1.out.2) (fun hSb => ?_)
      clear hK K
      try simp only [List.getElem_toArray, List.getElem_cons_zero, List.getElem_cons_succ, Act.put, List.setIfInBounds_toArray, List.set_cons_zero, List.set_cons_succ]
      clear hS
      have EQ : ∀ w', (Op.equalIn 10000 89 (.agg (cs .u8 d)) (.agg (cs .u8 d2))).run Tryz.prog w' = .ok (decide (d = d2)) w' := eq_arr d d2 (by rw [H1.out.1]; exact sum_len _) D2.out
      obtain ⟨eb, HEB⟩ : ∃ eb, Hid (decide (d = d2) = eb) := ⟨_, rfl⟩
      rw [HEB.out] at EQ
      refine till_one (i := 7) (by kernel_rfl) rfl (fun K hK => ?_)
      simp only [List.getElem_toArray, List.getElem_cons_zero, List.getElem_cons_succ]
      rw [if_pos (by rfl)]
      go_simp
      refine hK.out _ _ hSb (fun hS => ?_)
      clear hK K
      try simp only [List.getElem_toArray, List.getElem_cons_zero, List.getElem_cons_succ, Act.put, List.setIfInBounds_toArray, List.set_cons_zero, List.set_cons_succ]
      refine till_done (by kernel_rfl) ?_ _
      exact ⟨d, eb, rfl, HEB.out, H1.out⟩
    case hR =>
      rintro a' U1 ⟨d, eb, rfl, H⟩
      have bU1 : Below U.heap.size U U1 := ((Below.refl U.heap.size U).drew).trans H.out.2.2
      have GD : Hid (gdB B x.1 = eb) := by unfold gdB; rw [HP.out, HD.out, ← H.out.2.1]; exact H.out.1
      have HU2 := HU.out
      have wR2 := wR.out
      have SU : Hid (Sh w B a n R k pre.length U1) := HB.out.keep bU1 (by omega) (by omega) (by omega) (fun b o h3 h4 => by have := aB.out b o h3 h4; omega)
      have KB : Hid (KeepB (fun b => b = R ∨ b = R + 1 ∨ b = R + 2 ∨ b = R + 3) V.heap.size none U U1) := KeepB.of_below _ _ _ bU1
      clear bU1 hS0
      cases eb with
      | false =>
        have c0 := SU.out.r0.cell
        have f0 := SU.out.r0.frozen
        have c1 : (U1.setCell ⟨R, 0, none⟩ (.slice none 0 0)).cell? ⟨R + 1, 0, none⟩ = some (.bool false) := (SU.out.r1.other (by omega) _).cell
        have f1 : (U1.setCell ⟨R, 0, none⟩ (.slice none 0 0)).frozen? ⟨R + 1, 0, none⟩ = false := (SU.out.r1.other (by omega) _).frozen
        have F4 : Hid (postB (fun b => b = R ∨ b = R + 1 ∨ b = R + 2 ∨ b = R + 3) V.heap.size none (fun pre U => ∃ k, Sh w B a n R k pre.length U) (fun c pre U => c = .ret ∧ Shx w B n R U) (pre ++ [x]) U .ret ⟨#[], []⟩ ((U1.setCell ⟨R, 0, none⟩ (.slice none 0 0)).setCell ⟨R + 1, 0, none⟩ (.bool false))) := by
          refine ⟨(KB.out.trans (KeepB.of_set _ _ U1 _ (.inl rfl))).trans (KeepB.of_set _ _ _ _ (.inr (.inl rfl))), rfl, ?_, ?_, ?_, x.1, ?_, GD.out⟩
          · exact Boxed.other (SU.out.r0.set _) (by omega) _
          · exact (SU.out.r1.other (by omega) _).set _
          · exact (SU.out.bd.bel.setCell (by show w.heap.size ≤ R; omega) _).setCell (by show w.heap.size ≤ R + 1; omega) _
          · have := HX.out.2; unfold pcs; omega
        clear SU KB HB GD H HU2 wR2
        gi_wp2
        exact F4.out
      | true =>
        have PS : Hid (Sln U1 (some ⟨g, q, none⟩) f P) := S2.out.below H.out.2.2
        have room : k + f ≤ n := by
          have h1 := SU.out.bd.len
          have h2 := shK_len B pre.length
          have h3 : f = P.length := PS.out.len
          have h4 := shK_len B (pre.length + 1)
          have h5 := HX.out
          have h6 := lB.out
          rw [shK, List.length_append, ← h5.1, HP.out] at h4
          rw [← h5.1] at h1
          have h8 := pb_len B n x.1 h6
          rw [L2.out] at h8
          unfold ckn at h8
          have h7 := h4.2 (by omega)
          omega
        obtain ⟨U3, AP, c3, f3, bd4, k4⟩ := bd_app (c := f + 32) SU.out.bd PS.out (by simp) room (by omega) (by omega) (by omega) (fun b => b = R + 2 ∨ b = R + 3) (.inl rfl) (.inr rfl) V.heap.size none
        have cX : U1.cell? ⟨R + 1 + 1 + 1, 0, none⟩ = some (.slice (some ⟨R + 2, 0, none⟩) k n) := SU.out.bd.box.cell
        have c3' : U3.cell? ⟨R + 1 + 1 + 1, 0, none⟩ = some (.slice (some ⟨R + 2, 0, none⟩) k n) := c3
        have f3' : U3.frozen? ⟨R + 1 + 1 + 1, 0, none⟩ = false := f3
        have F4 : Hid (postB (fun b => b = R ∨ b = R + 1 ∨ b = R + 2 ∨ b = R + 3) V.heap.size none (fun pre U => ∃ k, Sh w B a n R k pre.length U) (fun c pre U => c = .ret ∧ Shx w B n R U) (pre ++ [x]) U .normal ⟨#[], []⟩ (U3.setCell ⟨R + 1 + 1 + 1, 0, none⟩ (.slice (some ⟨R + 2, 0, none⟩) (k + f) n))) := by
          refine ⟨KB.out.trans (k4.more (fun b h => h.elim (fun h => .inr (.inr (.inl h))) (fun h => .inr (.inr (.inr h))))), k + f, ?_, ?_, ?_, ?_, ?_⟩
          · rw [show (pre ++ [x]).length = pre.length + 1 by simp, shK, ← HX.out.1, HP.out, HX.out.1]; exact bd4
          · exact k4.same R _ SU.out.r0 (by omega) (by simp) (.inl rfl)
          · exact k4.same (R + 1) _ SU.out.r1 (by omega) (by simp) (.inl rfl)
          · exact SU.out.sl.keepB k4 (fun b o h3 h4 => by have := aB.out b o h3 h4; omega)
          · intro i hi
            by_cases h : i = x.1
            · rw [h]; exact GD.out
            · exact SU.out.gd i (by have := HX.out.1; simp at hi; omega)
        clear SU KB HB GD H HU2 wR2 c3 f3 bd4 k4 room PS
        gi_wp2_with (gi_at_builtin; refine wpListIn_app (by rfl) (.tmp 28) (.tmp 29) (by rfl) (by rfl) (by rfl) (by rfl) AP ?_)
        exact F4.out
  case done =>
    rintro D ys U hD ⟨k', q1, rfl⟩ ⟨k, hB⟩ hKD
    have lx : (cks n 64 k').length = pcs n := by
      rw [cks_all (by omega)]
      unfold pcs
      omega
    rw [lx] at hB
    have hD2 := hD
    have sV2 := sV.out
    have wR2 := wR.out
    have cX : U.cell? ⟨w.heap.size + 1 + 1 + 1, 0, none⟩ = some (.slice (some ⟨R + 2, 0, none⟩) k n) := by rw [HR.out]; exact hB.bd.box.cell
    have c0 : U.cell? ⟨w.heap.size, 0, none⟩ = some (.slice none 0 0) := by rw [HR.out]; exact hB.r0.cell
    have f0 : U.frozen? ⟨w.heap.size, 0, none⟩ = false := by rw [HR.out]; exact hB.r0.frozen
    obtain ⟨U2, HU2⟩ : ∃ U2, Hid (U.setCell ⟨w.heap.size, 0, none⟩ (.slice (some ⟨R + 2, 0, none⟩) k n) = U2) := ⟨_, rfl⟩
    have c1 : (U.setCell ⟨w.heap.size, 0, none⟩ (.slice (some ⟨R + 2, 0, none⟩) k n)).cell? ⟨w.heap.size + 1, 0, none⟩ = some (.bool false) := by rw [HR.out]; exact (hB.r1.other (by omega) _).cell
    have f1 : (U.setCell ⟨w.heap.size, 0, none⟩ (.slice (some ⟨R + 2, 0, none⟩) k n)).frozen? ⟨w.heap.size + 1, 0, none⟩ = false := by rw [HR.out]; exact (hB.r1.other (by omega) _).frozen
    obtain ⟨U4, HU4⟩ : ∃ U4, Hid ((U.setCell ⟨w.heap.size, 0, none⟩ (.slice (some ⟨R + 2, 0, none⟩) k n)).setCell ⟨w.heap.size + 1, 0, none⟩ (.bool true) = U4) := ⟨_, rfl⟩
    have b0 : Boxed U4 R 33 (.slice (some ⟨R + 2, 0, none⟩) k n) := by rw [← HU4.out, HR.out]; exact (hB.r0.set _).other (by omega) _
    have b1 : Boxed U4 (R + 1) 4 (.bool true) := by rw [← HU4.out, HR.out]; exact (hB.r1.other (by omega) _).set _
    have oth : ∀ b, b ≠ R → b ≠ R + 1 → U4.heap[b]? = U.heap[b]? := fun b h1 h2 => by
      rw [← HU4.out, HR.out]
      exact (Below.heap_setCell _ ⟨R + 1, 0, none⟩ _ b h2).trans (Below.heap_setCell U ⟨R, 0, none⟩ _ b h1)
    have hK2 : U4.heap[D]? = some (.deferred (some [])) := (oth D (by omega) (by omega)).trans hKD
    have lD : D < U4.heap.size := (Array.getElem?_eq_some_iff.1 hK2).1
    have bel4 : Below w.heap.size w U4 := by
      rw [← HU4.out]
      exact (hB.bd.bel.setCell (by show w.heap.size ≤ w.heap.size; omega) _).setCell (by show w.heap.size ≤ w.heap.size + 1; omega) _
    have pbw := put_below (.deferred none) (show w.heap.size ≤ D by omega) lD
    have e0 : (U4.putObj D (.deferred none)).cell? ⟨w.heap.size, 0, none⟩ = some (.slice (some ⟨R + 2, 0, none⟩) k n) := by rw [HR.out]; exact (boxed_put b0 (by omega)).cell
    have e1 : (U4.putObj D (.deferred none)).cell? ⟨w.heap.size + 1, 0, none⟩ = some (.bool true) := by rw [HR.out]; exact (boxed_put b1 (by omega)).cell
    have FIN : ShEnd w B n (.returned (.tuple #[.slice (some ⟨R + 2, 0, none⟩) k n, .bool true])) (U4.putObj D (.deferred none)) := by
      refine ⟨some ⟨R + 2, 0, none⟩, k, n, true, rfl, bel4.trans pbw, .inl ⟨rfl, hB.gd, ?_⟩⟩
      have o1 : Own U (R + 2) (some ⟨R + 2, 0, none⟩) k n (shK B (pcs n)) := ⟨hB.bd.len, hB.bd.own, by
        have h1 : ∀ j, ∀ y ∈ shK B j, y < 256 := by
          intro j
          induction j with
          | zero => simp [shK]
          | succ j ih =>
            intro y hy
            simp only [shK, List.mem_append] at hy
            rcases hy with hy | hy
            · exact ih y hy
            · exact hS.out.lt y (List.mem_of_mem_drop (List.mem_of_mem_take (List.mem_of_mem_take hy)))
        exact h1 _⟩
      exact (o1.block (w' := U4.putObj D (.deferred none)) (fun q hq => by cases hq; exact (World.putObj_heap_other (by show R + 2 ≠ D; omega)).trans (oth (R + 2) (by omega) (by omega)))).base (by omega)
    clear hB lx bel4 pbw b0 b1 oth lD hD2 sV2 wR2 c2 c3 EM
    gi_wp2
    rw [HU4.out]
    refine ⟨by simp, .inl ⟨_, _, rfl, run_takeDeferred hK2, ?_⟩⟩
    exact ⟨.tuple #[.slice (some ⟨R + 2, 0, none⟩) k n, .bool true], by simp [results, Tryz.results90, go_sem, e0, e1], FIN⟩
  case stop =>
    rintro D c' pre U hD hSp ⟨rfl, hX⟩ hKD
    have sV2 := sV.out
    have wR2 := wR.out
    have lD : D < U.heap.size := (Array.getElem?_eq_some_iff.1 hKD).1
    have pbw := put_below (.deferred none) (show w.heap.size ≤ D by omega) lD
    have e0 : (U.putObj D (.deferred none)).cell? ⟨w.heap.size, 0, none⟩ = some (.slice none 0 0) := by rw [HR.out]; exact (boxed_put hX.r0 (by omega)).cell
    have e1 : (U.putObj D (.deferred none)).cell? ⟨w.heap.size + 1, 0, none⟩ = some (.bool false) := by rw [HR.out]; exact (boxed_put hX.r1 (by omega)).cell
    have FIN : ShEnd w B n (.returned (.tuple #[.slice none 0 0, .bool false])) (U.putObj D (.deferred none)) := ⟨none, 0, 0, false, rfl, hX.bel.trans pbw, .inr ⟨rfl, hX.gd, rfl, rfl, rfl⟩⟩
    clear pbw lD sV2 wR2 c2 c3 EM
    gi_wp2
    refine ⟨by simp, .inl ⟨_, _, rfl, run_takeDeferred hKD, ?_⟩⟩
    exact ⟨.tuple #[.slice none 0 0, .bool false], by simp [results, Tryz.results90, go_sem, e0, e1], FIN⟩
end Go.Proofs.YtkdgakcmhnadfaaGreatDoor
