/- Get of package post. -/
import Derived.Test.YtppibcambhmomaaDoorMh
import Derived.Test.YtppibcambhmomaaDoorMPf
namespace Go.Proofs.YtppibcambhmomaaDoor
open Go.ChangeShapes Go.WideShapes Go.ChangeAt Go.RowKit
set_option maxRecDepth 20000
set_option linter.unusedVariables false
set_option linter.unusedSimpArgs false
theorem hidI {p : Prop} (h : p) : Hid p := h
theorem wpList_load_rowG {P : Program} {ops : Array Oper} {rest : List Oper} {o : Oper} {a : Act} {w : World} {Q : Exit → Act → World → Prop} (hw : Region.wanted o (yielded ops a.tmps) = true) (ty : TypeId) (x : Operand) (ho : o.op = .load ty x)
    (g : Nat) (hx : a.eval x = .pointer (some ⟨g, 0, none⟩)) (t : TypeId) (cs : Array Value) (fr : Nat × Nat) (d : TypeDesc) (hg : w.heap[g]? = some (.cells cs t fr))
    (hu : P.underlying ty = some d) (hd : (match d with | .struct _ | .array _ _ => true | _ => false) = true) (hi : (P.info? ty).map (·.size) = some cs.size)
    (h : wpList P ops Q rest (a.put o.dst (.agg cs)) w) : wpList P ops Q (o :: rest) a w :=
  wpList_step fun K hK => by rw [if_pos hw]; exact wp_load_row ty x ho g hx t cs fr d hg hu hd hi (hK _ _ h)
theorem res2_29 {fn : Func} (h : fn.results = #[.cell 2 29, .tmp 3]) (tmps : Array Value) (w : World) (g2 : Nat) (A : Array Value) (v : Value) (hp2 : tmps[2]?.getD undef = .pointer (some ⟨g2, 0, none⟩)) (hp3 : tmps[3]?.getD undef = v) (hg : w.heap[g2]? = some (.cells A 29 (0, 0))) (hA : A.size = 16) : (results fn tmps).run Tryd.prog w = .ok (.tuple #[.agg A, v]) w := by
  simp [results, h, hp2, hp3, asAddr, run_loadVar_row w g2 29 29 A (0, 0) _ hg Tryd.underlying29 rfl (info29 hA)]
theorem Zone : (#[.int .i64 0,.int .i64 0,.int .i64 0,.int .i64 0,.int .i64 0,.int .i64 0,.int .i64 0,.int .i64 0,.int .i64 0,.int .i64 0,.slice none 0 0,.int .i64 0,.int .i64 0,.int .i64 0, .bool false,.slice none 0 0] : Array Value).all (·.oneCell') = true := all_oneCell_toArray (fun v hv => by
  simp only [List.mem_cons, List.not_mem_nil, or_false] at hv
  rcases hv with rfl | rfl | rfl | rfl | rfl | rfl | rfl | rfl | rfl | rfl | rfl | rfl | rfl | rfl | rfl | rfl <;> rfl)
set_option maxHeartbeats 4000000 in
theorem getM_err {w : World} {M : Nat → Prop} {E : Nat → Addr} {a : Option Addr} {n c k : Nat} {l : List Nat} (hS : Hid (Sln w a n l)) (hz : Hid (a = none → c = 0)) (hnc : n ≤ c) (hE : Hid (Sent w M E)) (hM : M 1) (hM3 : M 3) (ho : Hid ((opn l).2 = k)) (hk : Hid (k = 5 ∨ k = 6)) :
    Calls Tryd.prog 12 #[.slice a n c] w fun e w' => e = .returned (.tuple #[.agg #[.int .i64 0,.int .i64 0,.int .i64 0,.int .i64 0,.int .i64 0,.int .i64 0,.int .i64 0,.int .i64 0,.int .i64 0,.int .i64 0,.slice none 0 0,.int .i64 0,.int .i64 0,.int .i64 0, .bool false,.slice none 0 0], erv E k]) ∧ Hid (Below w.heap.size w w') := by
  obtain ⟨g2, Hg2⟩ : ∃ x, Hid (w.heap.size = x) := ⟨_, rfl⟩
  obtain ⟨w1, Hw1⟩ : ∃ w1, Hid (w.alloc (.cells #[.int .i64 0,.int .i64 0,.int .i64 0,.int .i64 0,.int .i64 0,.int .i64 0,.int .i64 0,.int .i64 0,.int .i64 0,.int .i64 0,.slice none 0 0,.int .i64 0,.int .i64 0,.int .i64 0, .bool false,.slice none 0 0] 29) = w1) := ⟨_, rfl⟩
  have B1 : Hid (Below w.heap.size w w1) := by rw [← Hw1.out]; exact alloc1 w _
  have k1 : Hid (w1.heap[g2]? = some (.cells #[.int .i64 0,.int .i64 0,.int .i64 0,.int .i64 0,.int .i64 0,.int .i64 0,.int .i64 0,.int .i64 0,.int .i64 0,.int .i64 0,.slice none 0 0,.int .i64 0,.int .i64 0,.int .i64 0, .bool false,.slice none 0 0] 29 (0, 0))) := by rw [← Hw1.out, ← Hg2.out]; exact heap_alloc_new w _
  have S1 : Hid (Sln w1 a n l) := hS.out.below B1.out
  have E1 : Hid (Sent w1 M E) := hE.out.below B1.out
  have HV : Hid (∃ p, erv E k = .iface 142 (.pointer (some p))) := by
    rcases hk.out with rfl | rfl
    · exact ⟨E 1, rfl⟩
    · exact ⟨E 3, rfl⟩
  obtain ⟨p, hp⟩ := HV.out
  have HP : Hid (erv E k = .iface 142 (.pointer (some p))) := hp
  clear HV hp
  rw [HP.out]
  go_enter Tryd.func12, Tryd.ntmps12
  go_upto_region 1 with (fail)
  rw [Hw1.out, Hg2.out]
  go_upto_region 3 with (go_at_call 23; refine (open_any S1 hz hnc E1 hM3 hM).mono ?_; rintro e w2 ⟨a2, n2, c2, v, rfl, H2⟩; obtain rfl : v = .iface 142 (.pointer (some p)) := by have h := H2.out.1; rw [ho.out, HP.out] at h; exact h)
  have k2 : Hid (w2.heap[g2]? = some (.cells #[.int .i64 0,.int .i64 0,.int .i64 0,.int .i64 0,.int .i64 0,.int .i64 0,.int .i64 0,.int .i64 0,.int .i64 0,.int .i64 0,.slice none 0 0,.int .i64 0,.int .i64 0,.int .i64 0, .bool false,.slice none 0 0] 29 (0, 0))) := (H2.out.2.2.block g2 (Array.getElem?_eq_some_iff.1 k1.out).1).trans k1.out
  go_wp2_with (refine wpList_store_row (by rfl) 29 (.tmp 2) (.tmp 15) (by rfl) g2 #[.int .i64 0,.int .i64 0,.int .i64 0,.int .i64 0,.int .i64 0,.int .i64 0,.int .i64 0,.int .i64 0,.int .i64 0,.int .i64 0,.slice none 0 0,.int .i64 0,.int .i64 0,.int .i64 0, .bool false,.slice none 0 0] (by rfl) (by rfl) 29 _ k2.out (info29 (by rfl)) (by rfl) Zone ?_)
  refine bodyPost_ret (res2_29 Tryd.results12 _ _ g2 #[.int .i64 0,.int .i64 0,.int .i64 0,.int .i64 0,.int .i64 0,.int .i64 0,.int .i64 0,.int .i64 0,.int .i64 0,.int .i64 0,.slice none 0 0,.int .i64 0,.int .i64 0,.int .i64 0, .bool false,.slice none 0 0] _ (by rfl) (by rfl) (setRow_heap _ _ _ _ _ _ k2.out) (by rfl)) rfl ?_
  exact ⟨rfl, below_setRow (B1.out.trans (H2.out.2.2.mono B1.out.size)) (by have := Hg2.out; omega) _⟩
end Go.Proofs.YtppibcambhmomaaDoor
