/- The pieces of a query, handed over one by one. -/
import Derived.Test.YtalagagnolhppaaDoorUh
namespace Go.Proofs.YtalagagnolhppaaDoor
open Go.ChangeShapes Go.WideShapes Go.ChangeAt Go.RowKit Go.Shelf
set_option maxRecDepth 20000
set_option linter.unusedVariables false
set_option linter.unusedSimpArgs false
attribute [local go_sem] Oper.semAt_some
theorem yield_any {m m' l : Nat} {P : Program} {args : Array Value} {W : World} {R : Ending → World → Prop} (h : YieldAt Fence.wide m P l args W R) : YieldAt Fence.wide m' P l args W R := by
  obtain ⟨fn, tmps, assign, body, hy, hR⟩ := h
  exact ⟨fn, tmps, assign, body, hy, hR.1, fun c cs _ => hR.2 c cs (fun d e => by cases e)⟩
def strZ : Value → Nat
  | .string s => s.size
  | _ => 0
abbrev Px := {x : ByteArray // x.size ≤ 4294967296}
set_option maxHeartbeats 4000000 in
theorem pieces_seq (N : Nat) (hN : 3 ≤ N) (K : Nat) (q : ByteArray) (hq : q.size ≤ 4294967296) (w : World) (hk : w.cell? ⟨K, 0, none⟩ = some (.string q)) :
    SeqStopsK Fence.wide N Tryd.prog 36 #[.pointer (some ⟨K, 0, none⟩)] (fun x : Px => #[.string x.1]) (fun _ _ => True) (fun xs => xs.map Subtype.val = pcs q) (fun pre => ∃ r, pcs q = pre.map Subtype.val ++ r) (pcs q).length w := fun L J Jx W hW hJ hJx hY h0 => by
  have hk1 := (hW.cell (p := ⟨K, 0, none⟩) (cell_lt hk)).trans hk
  have hJ2 : ∀ s A B, J s A → Below A.heap.size A B → J s B := fun s A B h hb => hJ s A B none h ⟨hb.os, hb.tape, hb.output, hb.size, fun k hk _ => hb.block k hk⟩ (fun r e => by cases e)
  refine callsIn_of_wp Tryd.func36 rfl trivial ?_ rfl
  simp only [Tryd.ntmps36, List.size_toArray, List.length_cons, List.length_nil, Nat.reduceAdd, Nat.reduceSub, Array.replicate_succ, Array.replicate_zero, List.push_toArray, List.append_toArray, List.nil_append, List.cons_append]
  have h1 : 1 ≤ N := by omega
  have h2 : 1 ≤ N - 1 := by omega
  gi_wp2
  gi_loopw [3] (fun tr wr => ∃ (rest : ByteArray) (pre : List Px), tr = .string rest ∧ rest.size ≤ q.size ∧ Hid (pcs q = pre.map Subtype.val ++ pcs rest) ∧ J pre wr)
    (fun tr _ => strZ tr)
  case atStart => exact ⟨q, [], rfl, Nat.le_refl _, rfl, h0⟩
  case round =>
    obtain ⟨rest, pre, rfl, hz, HP, hj⟩ := hrel
    by_cases r0 : rest.size = 0
    · have q0 := no_str r0
      have HE : Hid (pcs q = pre.map Subtype.val) := (by rw [HP.out, pcs_nil r0, List.append_nil] : pcs q = pre.map Subtype.val)
      gi_wp2
      go_end0
      exact ⟨⟨_, rfl⟩, .inl ⟨_, HE.out.symm, hj⟩⟩
    · have q0 := is_str r0
      have q1 := is_strE r0
      have C0 : Hid (∀ w, Calls Tryd.prog 21 #[.string rest, .string ⟨#[38]⟩] w fun e w' => (∃ b, e = .returned (.tuple #[.string (ctA 38 rest), .string (ctB 38 rest), .bool b])) ∧ Hid (Below w.heap.size w w')) := fun w => cut_n rest 38 (by omega) w
      have MS := ctB_lt 38 (s := rest) (by omega)
      by_cases p0 : (ctA 38 rest).size = 0
      · have HX : Hid (pcs q = pre.map Subtype.val ++ pcs (ctB 38 rest)) := (by rw [HP.out, pcs_skip r0 p0] : pcs q = pre.map Subtype.val ++ pcs (ctB 38 rest))
        have e0 := no_str p0
        obtain ⟨p, Hp⟩ : ∃ x, Hid (ctA 38 rest = x) := ⟨_, rfl⟩
        obtain ⟨r, Hr⟩ : ∃ x, Hid (ctB 38 rest = x) := ⟨_, rfl⟩
        rw [Hp.out] at C0 e0
        rw [Hr.out] at C0 HX MS
        gi_wp2_with (refine ⟨trivial, ?_⟩; gi_at_call 21; refine (callsIn_wide.2 (C0.out _)).mono ?_; rintro e w1 ⟨⟨b, rfl⟩, B1⟩)
        refine ⟨(fun f hf => by cases hf), ?_⟩
        show (Exit.then _ (fun _ _ _ => True)) .normal _ _
        gi_wp2
        go_roundw
        case rel => exact ⟨r, pre, rfl, by omega, HX.out, hJ2 _ _ _ hj B1.out⟩
        case measure => exact MS
      · have zp := ctA_size 38 rest
        have HX : Hid (pcs q = (pre.map Subtype.val ++ [ctA 38 rest]) ++ pcs (ctB 38 rest)) := (by rw [HP.out, pcs_more r0 p0, List.append_assoc]; rfl : pcs q = (pre.map Subtype.val ++ [ctA 38 rest]) ++ pcs (ctB 38 rest))
        have e0 := is_str p0
        have e1 := is_strE p0
        obtain ⟨p, Hp⟩ : ∃ x, Hid (ctA 38 rest = x) := ⟨_, rfl⟩
        obtain ⟨r, Hr⟩ : ∃ x, Hid (ctB 38 rest = x) := ⟨_, rfl⟩
        rw [Hp.out] at C0 HX e0 e1 zp
        rw [Hr.out] at C0 HX MS
        have GL : pre.length < (pcs q).length := by rw [HX.out]; simp only [List.length_append, List.length_map, List.length_cons]; omega
        gi_wp2_with (refine ⟨trivial, ?_⟩; gi_at_call 21; refine (callsIn_wide.2 (C0.out _)).mono ?_; rintro e w1 ⟨⟨b, rfl⟩, B1⟩
                     obtain ⟨fn, tmps, assign, body, hy, hR⟩ := yield_any (m' := N - 1) (hY pre ⟨p, by omega⟩ w1 (hJ2 _ _ _ hj B1.out) GL))
        refine hR.mono ?_
        rintro e' W3 (⟨rfl, hJ3, hk3⟩ | ⟨rfl, hJx3⟩)
        · gi_wp2
          go_roundw
          case rel => exact ⟨r, pre ++ [⟨p, by omega⟩], rfl, by omega, by rw [List.map_append]; exact HX.out, hJ3⟩
          case measure => exact MS
        · gi_wp2
          refine bodyPost_ret (results_none rfl _ _ _) rfl ?_
          exact ⟨⟨_, rfl⟩, .inr ⟨_, ⟨pcs r, by rw [List.map_append]; exact HX.out⟩, hJx3⟩⟩
theorem pieces_n (s : ByteArray) (w : World) : Calls Tryd.prog 23 #[.string s] w fun e w' => e = .returned (.func (.func 36) #[] #[.pointer (some ⟨w.heap.size, 0, none⟩)]) ∧ w' = w.alloc (.cells #[.string s] 9) := by
  go_enter Tryd.func23, Tryd.ntmps23
  go_wp2
  go_ret
  exact ⟨rfl, rfl⟩
end Go.Proofs.YtalagagnolhppaaDoor
