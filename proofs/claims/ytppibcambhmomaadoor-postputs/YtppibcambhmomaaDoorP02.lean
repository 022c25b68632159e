import Derived.Test.YtppibcambhmomaaDoorPp
import Derived.Test.YtppibcambhmomaaDoorP00
import Derived.LaidLaws
import Derived.LaidEql
import Derived.LaidMore
import Derived.ProofKit
import Derived.OpenShut
import Derived.Stop.Joined
import Derived.Test.YtppibcambhmomaaDoorP01
import Derived.Laws.Cover3
import Derived.Test.YtppibcambhmomaaDoorRows
import Derived.WalkKit
import Derived.Outline
import Derived.Handy
import Derived.Deep.QuietTactic
import Derived.BigQuiet
import Derived.WalkSmall
import Derived.Laws.Tables
import Derived.Laws.CopyOwn
import Derived.Laws.OwnMore
import Derived.Deep.MidRow
import Derived.Deep.WholeRow
import Derived.StillTailTactics
import Derived.WalkLawsBesides
import Derived.SizedLaws
import Derived.ChangeOld
import Derived.Below
import Derived.Lib.SmallJoins
namespace Go.Proofs.YtppibcambhmomaaDoor
set_option maxRecDepth 20000
open Go.ChangeShapes Go.WideShapes Go.ChangeAt Go.RowKit
set_option linter.unusedVariables false
set_option linter.unusedSimpArgs false
abbrev er (a : Addr) : Value := .iface 142 (.pointer (some a))
theorem star : "*" ++ "errors.errorString" = "*errors.errorString" := by decide
theorem row84 (u : TypeId) (h : Tryd.prog.typeName? 3 u = some "*errors.errorString") : u = 142 :=
 typeName_ptr_named (nm := "errors.errorString") (by rw [star]; kernel_rfl) (by kernel_rfl) (by decide) u (by rw [star]; exact h)
theorem cells102 : Tryd.prog.cellsOf 158 = 1 := by kernel_rfl
theorem cells9 : Tryd.prog.cellsOf 9 = 1 := by kernel_rfl
def dsent (t : List UInt8) : DataW Unit := .iface "*errors.errorString" (.ptr (.agg [.lit (.string t)]))
def named (l : List (String × Nat × List UInt8)) : List (String × DataW Unit) := l.map fun v => (v.1, dsent v.2.2)
theorem sent_ind {W : World} : ∀ (l : List (String × Nat × List UInt8)) (ps : List MemPlace),
  (∀ v ∈ l, Tryd.prog.globalNamed v.1 = some v.2.1 /\ (Tryd.prog.globals[v.2.1]?).map (·.type) = some 33) -> (l.map (·.2.1)).Nodup -> DataW.LaidVars Tryd.prog W (named l) ps -> ps.Nodup →
  (∀ b off, MemPlace.cell b off ∈ ps -> ∀ u v, W.cell? ⟨b, off, none⟩ = some (.iface u v) -> Value.okWide Tryd.prog W .any 0 u v) →
  ∃ E : Nat -> Addr, ∀ v ∈ l, W.cell? ⟨v.2.1, 0, none⟩ = some (er (E v.2.1)) /\ MemPlace.cell (E v.2.1).block (E v.2.1).off ∈ ps /\ ∀ v' ∈ l, v.2.1 ≠ v'.2.1 -> E v.2.1 ≠ E v'.2.1 := by
 intro l
 induction l with
 | nil => intro ps _ _ _ _ _; exact ⟨fun _ => ⟨0, 0, none⟩, fun v hv => by cases hv⟩
 | cons v0 r ih =>
   intro ps hg hnd hL hps hok
   obtain ⟨n0, g0, t0⟩ := v0
   obtain ⟨g, t, cs, fuel, p, q, h1, h2, h3, h4, h5, rfl⟩ := hL
   obtain ⟨hgn, hgt⟩ := hg (n0, g0, t0) (List.mem_cons_self ..)
   obtain rfl := Option.some.inj (hgn.symm.trans h1)
   obtain rfl := Option.some.inj (hgt.symm.trans h2)
   obtain ⟨l0⟩ := cs
   have ok0 : ∀ u v, l0 = [.iface u v] -> Value.okWide Tryd.prog W .any 0 u v := fun u v e => by
    subst e
    exact hok g0 0 (by simp [MemPlace.row]) u v (by simpa using World.var?_cell hgn h3 0)
   obtain ⟨a0, s0, rfl, hc0, hs0, hz0, rfl⟩ := errorString_of_trod Tryd.underlying33 row84 Tryd.underlying142 Tryd.underlying158 rfl rfl Tryd.underlying9 cells102 cells9 h4 ok0
   have hnq : q.Nodup := (List.nodup_append.1 hps).2.1
   simp only [List.map_cons, List.nodup_cons] at hnd
   obtain ⟨E, hE⟩ := ih q (fun v hv => hg v (List.mem_cons_of_mem _ hv)) hnd.2 h5 hnq (fun b off hm => hok b off (by simp [hm]))
   have hcell : W.cell? ⟨g0, 0, none⟩ = some (er a0) := by simpa using World.var?_cell hgn h3 0
   have hne : ∀ v ∈ r, v.2.1 ≠ g0 := fun v hv e => hnd.1 (List.mem_map.2 ⟨v, hv, e⟩)
   have hdis : ∀ v ∈ r, a0 ≠ E v.2.1 := by
    intro v hv e
    have h6 := (hE v hv).2.1
    rw [<- e] at h6
    have h7 := (List.nodup_append.1 hps).2.2 (MemPlace.cell a0.block a0.off) (by simp [MemPlace.row]) (MemPlace.cell a0.block a0.off) h6
    exact h7 rfl
   refine ⟨fun x => if x = g0 then a0 else E x, fun v hv => ?_⟩
   rcases List.mem_cons.1 hv with rfl | hv
   . refine ⟨by simpa using hcell, by simp [MemPlace.row], fun v' hv' hvv => ?_⟩
     rcases List.mem_cons.1 hv' with rfl | hv'
     . exact absurd rfl hvv
     . simp only [if_true]
       rw [if_neg (hne v' hv')]
       exact hdis v' hv'
   . have h8 := hE v hv
     simp only [if_neg (hne v hv)]
     refine ⟨h8.1, by simp [h8.2.1], fun v' hv' hvv => ?_⟩
     rcases List.mem_cons.1 hv' with rfl | hv'
     . simp only [if_true]
       exact fun e => hdis v hv e.symm
     . rw [if_neg (hne v' hv')]
       exact h8.2.2 v' hv' hvv
structure Sent (w : World) (M : Nat -> Prop) (E : Nat -> Addr) : Prop where
 c : ∀ g, M g -> w.cell? ⟨g, 0, none⟩ = some (er (E g))
 row : ∀ g, M g -> ∃ cs t, w.heap[(E g).block]? = some (.cells cs t (0, 0))
 ne : ∀ g g', M g -> M g' -> g ≠ g' -> E g ≠ E g'
theorem Sent.below {w w' : World} {M : Nat -> Prop} {E : Nat -> Addr} (h : Sent w M E) (hb : Below w.heap.size w w') : Sent w' M E :=
 ⟨fun g hg => (hb.cell (p := ⟨g, 0, none⟩) (cell_lt (h.c g hg))).trans (h.c g hg), fun g hg => by
  obtain ⟨cs, t, h1⟩ := h.row g hg
  exact ⟨cs, t, (hb.block _ (gl h1)).trans h1⟩, h.ne⟩
theorem sent_of {W : World} {laid : List (String × DataW Unit)} {M : Nat -> Prop} (l : List (String × Nat × List UInt8)) (hl : laid = named l) (hp : laid.all (fun x => x.2.handleName?.isNone) = true) (hg : ∀ v ∈ l, Tryd.prog.globalNamed v.1 = some v.2.1 /\ (Tryd.prog.globals[v.2.1]?).map (·.type) = some 33)
  (hnd : (l.map (·.2.1)).Nodup) (hM : ∀ g, M g -> ∃ v ∈ l, v.2.1 = g) (h : laidMetH Tryd.prog laid W) : ∃ E, Sent W M E := by
 rw [MakeChecks.laidMetH_plain _ _ _ hp, hl] at h
 obtain ⟨ps, h1, h2, h3⟩ := h
 obtain ⟨E, hE⟩ := sent_ind l ps hg hnd h1 h2 (fun b off hm => (h3 b off hm).2)
 refine ⟨E, fun g hg => ?_, fun g hg => ?_, fun g g' hg hg' hne => ?_⟩
 . obtain ⟨v, hv, rfl⟩ := hM g hg
   exact (hE v hv).1
 . obtain ⟨v, hv, rfl⟩ := hM g hg
   obtain ⟨cs, t, h4⟩ := (h3 _ _ (hE v hv).2.1).1
   exact ⟨cs, t, h4⟩
 . obtain ⟨v, hv, rfl⟩ := hM g hg
   obtain ⟨v', hv', rfl⟩ := hM g' hg'
   exact (hE v hv).2.2 v' hv' hne
theorem comp85 : (Tryd.prog.info? 142).map (·.comparable) = some true := by kernel_rfl
theorem size101 : (Tryd.prog.info? 158).map (·.size) = some 1 := by kernel_rfl
theorem eql_same (w : World) (a : Addr) : (binOp .eql 33 (.iface 142 (.pointer (some a))) (.iface 142 (.pointer (some a)))).run Tryd.prog w = .ok (.bool true) w := by
 obtain ⟨i, hi, hc⟩ := Option.map_eq_some_iff.1 comp85
 obtain ⟨j, hj, _⟩ := Option.map_eq_some_iff.1 size101
 exact run_eql_iface_ptr_same w a Tryd.underlying33 Tryd.underlying142 hi hc hj
structure Wri (w : World) (g B : Nat) (a : Option Addr) (n c : Nat) (L : List Nat) (s : Bool) : Prop where
 blk : w.heap[g]? = some (.cells #[.slice a n c,.bool s] 96 (0, 0))
 own : Own w B a n c L
 ne : blkOf a ≠ some g
structure Wfr (w w' : World) (g : Nat) (a : Option Addr) : Prop where
 os : w'.os = w.os
 tape : w'.tape = w.tape
 output : w'.output = w.output
 size : w.heap.size <= w'.heap.size
 block : ∀ k, k < w.heap.size -> k ≠ g -> some k ≠ blkOf a -> w'.heap[k]? = w.heap[k]?
theorem Wfr.refl (w : World) (g : Nat) (a : Option Addr) : Wfr w w g a := ⟨rfl, rfl, rfl, Nat.le_refl _, fun _ _ _ _ => rfl⟩
theorem Wfr.trans {w w1 w2 : World} {g : Nat} {a a1 : Option Addr} (h : Wfr w w1 g a) (h1 : Wfr w1 w2 g a1) (hn : New w a a1) : Wfr w w2 g a :=
 ⟨h1.os.trans h.os, h1.tape.trans h.tape, h1.output.trans h.output, Nat.le_trans h.size h1.size, fun k hk hne hne2 => (h1.block k (Nat.lt_of_lt_of_le hk h.size) hne (fun e => by
  rcases hn k e.symm with h2 | h2
  . exact hne2 h2.symm
  . omega)).trans (h.block k hk hne hne2)⟩
theorem Wfr.grown {w w' : World} {a : Option Addr} (g : Nat) (h : w.grownBy w' (blkOf a)) : Wfr w w' g a := ⟨h.os, h.tape, h.output, h.size, fun k hk _ h2 => h.block k hk h2⟩
theorem Wfr.setCell {w w' : World} {g : Nat} {a : Option Addr} (h : Wfr w w' g a) (i : Nat) (v : Value) : Wfr w (w'.setCell ⟨g, i, none⟩ v) g a :=
 ⟨h.os, h.tape, h.output, by simp [World.setCell]; exact h.size, fun k hk h1 h2 => (Below.heap_setCell _ _ _ _ h1).trans (h.block k hk h1 h2)⟩
theorem Wfr.below {w0 w w' : World} {B g : Nat} {a : Option Addr} (hb : Below B w0 w) (h : Wfr w w' g a) (hg : B <= g) (ha : ∀ q, blkOf a = some q -> B <= q) (hB : B <= w.heap.size) : Below B w0 w' :=
 hb.trans ⟨h.os, h.tape, h.output, h.size, fun k hk => h.block k (by omega) (by omega) (fun e => by have := ha k e.symm; omega)⟩
theorem Wfr.sln {w w' : World} {g : Nat} {a a2 : Option Addr} {m : Nat} {l : List Nat} (h : Wfr w w' g a) (hS : Sln w a2 m l) (hap : ∀ b off, l ≠ [] -> a2 = some ⟨b, off, none⟩ -> b ≠ g /\ some b ≠ blkOf a) : Sln w' a2 m l := by
 refine ⟨hS.len, hS.sli.1, hS.sli.2.1, ?_⟩
 by_cases hl : l = []
 . exact .inl hl
 . obtain ⟨b, off, h1, h2, h3⟩ := hS.sli.2.2.resolve_left hl
   obtain ⟨h4, h5⟩ := hap b off hl h1
   exact .inr ⟨b, off, h1, Nat.lt_of_lt_of_le h2 h.size, fun i hi => (World.cell?_of_block (w := w) (a := ⟨b, off + i, none⟩) (h.block b h2 h4 h5)).trans (h3 i hi)⟩
theorem Wri.lt {w : World} {g B : Nat} {a : Option Addr} {n c : Nat} {L : List Nat} {s : Bool} (h : Wri w g B a n c L s) : g < w.heap.size := (gl h.blk)
theorem Wri.c0 {w : World} {g B : Nat} {a : Option Addr} {n c : Nat} {L : List Nat} {s : Bool} (h : Wri w g B a n c L s) : w.cell? ⟨g, 0, none⟩ = some (.slice a n c) := by
 have := h.blk
 simp [World.cell?, this]
theorem Wri.c1 {w : World} {g B : Nat} {a : Option Addr} {n c : Nat} {L : List Nat} {s : Bool} (h : Wri w g B a n c L s) : w.cell? ⟨g, 1, none⟩ = some (.bool s) := by
 have := h.blk
 simp [World.cell?, this]
theorem fz {w : World} {g t : Nat} {cs : Array Value} (h : w.heap[g]? = some (.cells cs t (0, 0))) (i : Nat) : w.frozen? ⟨g, i, none⟩ = false := by
 simp [World.frozen?, h]
theorem set_blk {w : World} {g t : Nat} {cs : Array Value} (h : w.heap[g]? = some (.cells cs t (0, 0))) (i : Nat) (v : Value) : (w.setCell ⟨g, i, none⟩ v).heap[g]? = some (.cells (cs.setIfInBounds i v) t (0, 0)) := by
 rw [setCell_eq_setRow w g i cs t (0, 0) v h]
 exact setRow_heap w g cs (cs.setIfInBounds i v) t (0, 0) h
theorem Wri.put {w w1 : World} {g B : Nat} {a a1 : Option Addr} {n c n1 c1 : Nat} {L L1 : List Nat} {s : Bool} (h : Wri w g B a n c L s) (gr : w.grownBy w1 (blkOf a)) (new : New w a a1) (own : Own w1 B a1 n1 c1 L1) :
  w1.heap[g]? = some (.cells #[.slice a n c,.bool s] 96 (0, 0)) /\ Wri (w1.setCell ⟨g, 0, none⟩ (.slice a1 n1 c1)) g B a1 n1 c1 L1 s /\ Wfr w (w1.setCell ⟨g, 0, none⟩ (.slice a1 n1 c1)) g a := by
 have hb : w1.heap[g]? = some (.cells #[.slice a n c,.bool s] 96 (0, 0)) := (gr.block g h.lt (fun e => h.ne e.symm)).trans h.blk
 have hne : blkOf a1 ≠ some g := by
  intro e
  rcases new g e with h1 | h1
  . exact h.ne h1
  . have := h.lt; omega
 refine ⟨hb, ⟨?_, ?_, hne⟩, (Wfr.grown g gr).setCell 0 _⟩
 . rw [set_blk hb]; rfl
 . exact own.block (fun q hq => Below.heap_setCell _ _ _ _ (fun e => hne (by rw [hq, e])))
theorem newWriter_n (w : World) : Calls Tryd.prog 39 #[] w fun e w' => e = .returned (.pointer (some ⟨w.heap.size, 0, none⟩)) /\ Hid (w' = w.alloc (.cells #[.slice none 0 0,.bool false] 96)) := by
 go_enter Tryd.func39, Tryd.ntmps39
 go_wp2
 go_ret
 exact ⟨rfl, rfl⟩
theorem Wri.new (w : World) (B : Nat) : Wri (w.alloc (.cells #[.slice none 0 0,.bool false] 96)) w.heap.size B none 0 0 [] false := ⟨heap_alloc_new w _, Own.nil _ _, by simp [blkOf]⟩
set_option maxHeartbeats 1000000 in
theorem num_n {w : World} {g B : Nat} {a : Option Addr} {n c N : Nat} {L : List Nat} {s : Bool} (hW : Hid (Wri w g B a n c L s)) (hN : N < 9223372036854775808) (hB : Hid (B <= w.heap.size)) (hb : Hid (n + 9 <= 140737488352256)) :
  Calls Tryd.prog 35 #[.pointer (some ⟨g, 0, none⟩),.int .i64 (N : Int)] w fun e w' => ∃ a' n' c', e = .returned (.tuple #[]) /\ Hid (Wri w' g B a' n' c' (L ++ enc N) s /\ Wfr w w' g a /\ New w a a') := by
 have c0 := hW.out.c0
 have O := hW.out.own
 have OO : Hid (Own w B a n c L) := O
 have i1 : ¬ ((N : Int) < 0) := by omega
 have HN : Hid (N < 9223372036854775808) := hN
 clear O
 go_enter Tryd.func35, Tryd.ntmps35
 go_wp2_with (first
  | (go_at_call 55; refine (appendNumber_n OO HN hB hb).mono ?_; rintro e w1 ⟨a1, n1, c1, rfl, H1⟩
     obtain ⟨hb1, hw2, hf2⟩ := hW.out.put H1.out.gr H1.out.new H1.out.own
     have c01 : w1.cell? ⟨g, 0, none⟩ = some (.slice a n c) := by simp [World.cell?, hb1]
     have f01 : w1.frozen? ⟨g, 0, none⟩ = false := fz hb1 0
     have W2 : Hid (Wri (w1.setCell ⟨g, 0, none⟩ (.slice a1 n1 c1)) g B a1 n1 c1 (L ++ enc N) s /\ Wfr w (w1.setCell ⟨g, 0, none⟩ (.slice a1 n1 c1)) g a /\ New w a a1) := ⟨hw2, hf2, H1.out.new⟩
     clear hb1 hw2 hf2 H1))
 go_end0
 exact ⟨a1, n1, c1, rfl, W2.out⟩
theorem wpList_app9 {ops : Array Oper} {rest : List Oper} {o : Oper} {a : Act} {Q : Exit -> Act -> World -> Prop} {w w' : World} {v v1 v2 : Value} (hgd : o.guard = none) (s x : Operand)
  (ho : o.op = .call { callee := .builtin .append, args := #[s, x], argTypes := #[27, 9] }) (hty : o.type = 27) (hs : a.eval s = v1) (hx : a.eval x = v2) (hrun : Hid ((Builtin.append_ #[27, 9] 27 #[v1, v2]).run Tryd.prog w = .ok v w'))
  (h : wpList Tryd.prog ops Q rest (a.put o.dst v) w') : wpList Tryd.prog ops Q (o :: rest) a w := by
 refine wpList_plain hgd fun K hK => ?_
 have hr := hrun.out
 unfold Oper.wp
 simp [execOp, ho, resolve, invoke, builtin, hs, hx, hty, hr, Result.andThen]
 exact hK _ _ h
set_option maxHeartbeats 1000000 in
theorem text_n {w : World} {g B : Nat} {a : Option Addr} {n c m : Nat} {L l : List Nat} {s : Bool} (hW : Hid (Wri w g B a n c L s)) (hl : Hid (∀ x ∈ l, x < 256)) (hm : Hid (m = l.length)) (hB : Hid (B <= w.heap.size)) (hb : Hid (n + m + 18 <= 140737488352256)) :
  Calls Tryd.prog 71 #[.pointer (some ⟨g, 0, none⟩),.string (spell l)] w fun e w' => ∃ a' n' c', e = .returned (.tuple #[]) /\ Hid (Wri w' g B a' n' c' (L ++ (enc m ++ l)) s /\ Wfr w w' g a /\ New w a a') := by
 have es : (spell l).size = m := by rw [spell_size]; exact hm.out.symm
 have hm2 : m < 9223372036854775808 := by have := hb.out; omega
 have hb1 : Hid (n + 9 <= 140737488352256) := by have := hb.out; show _ <= _; omega
 go_enter Tryd.func71, Tryd.ntmps71
 go_wp2_with (first
  | (go_at_call 35; refine (num_n hW hm2 hB hb1).mono ?_; rintro e w1 ⟨a1, n1, c1, rfl, H1⟩
     have hn1 : n1 = n + (enc m).length := by rw [H1.out.1.own.len, List.length_append, hW.out.own.len]
     have he := enc_nine hm2
     obtain ⟨a2, c2, w2, hrun, own2, gr2, new2⟩ := app_anys H1.out.1.own hl.out hm.out (by have := hb.out; omega) (Nat.le_trans hB.out H1.out.2.1.size)
     have c0 := H1.out.1.c0
     have AP : Hid ((Builtin.append_ #[27, 9] 27 #[.slice a1 n1 c1,.string (spell l)]).run Tryd.prog w1 = .ok (.slice a2 (n1 + m) c2) w2) := hrun
     obtain ⟨hb2, hw2, hf2⟩ := H1.out.1.put gr2 new2 own2
     have c01 : w2.cell? ⟨g, 0, none⟩ = some (.slice a1 n1 c1) := by simp [World.cell?, hb2]
     have f01 : w2.frozen? ⟨g, 0, none⟩ = false := fz hb2 0
     rw [List.append_assoc] at hw2
     have W2 : Hid (Wri (w2.setCell ⟨g, 0, none⟩ (.slice a2 (n1 + m) c2)) g B a2 (n1 + m) c2 (L ++ (enc m ++ l)) s /\ Wfr w (w2.setCell ⟨g, 0, none⟩ (.slice a2 (n1 + m) c2)) g a /\ New w a a2) := ⟨hw2, H1.out.2.1.trans hf2 H1.out.2.2, H1.out.2.2.trans new2 H1.out.2.1.size⟩
     clear hrun own2 gr2 new2 hb2 hw2 hf2 hn1 he)
  | (at_builtin; refine wpList_app9 (by rfl) (.tmp 12) (.tmp 13) (by rfl) (by rfl) (by rfl) (by rfl) AP ?_))
 go_end0
 exact ⟨a2, n1 + m, c2, rfl, W2.out⟩
set_option maxHeartbeats 1000000 in
theorem wbytes_n {w : World} {g B : Nat} {a : Option Addr} {n c : Nat} {L l : List Nat} {s : Bool} {ab : Option Addr} {m cb : Nat} (hW : Hid (Wri w g B a n c L s)) (hS : Hid (Sln w ab m l)) (hc : Hid (ab = none -> cb = 0)) (hap : Hid (∀ b off, l ≠ [] -> ab = some ⟨b, off, none⟩ -> b ≠ g /\ some b ≠ blkOf a)) (hB : Hid (B <= w.heap.size)) (hb : Hid (n + m + 18 <= 140737488352256)) :
  Calls Tryd.prog 37 #[.pointer (some ⟨g, 0, none⟩),.slice ab m cb] w fun e w' => ∃ a' n' c', e = .returned (.tuple #[]) /\ Hid (Wri w' g B a' n' c' (L ++ (enc m ++ l)) s /\ Wfr w w' g a /\ New w a a') := by
 have hm2 : m < 9223372036854775808 := by have := hb.out; omega
 have hb1 : Hid (n + 9 <= 140737488352256) := by have := hb.out; show _ <= _; omega
 go_enter Tryd.func37, Tryd.ntmps37
 go_wp2_with (first
  | (go_at_call 35; refine (num_n hW hm2 hB hb1).mono ?_; rintro e w1 ⟨a1, n1, c1, rfl, H1⟩
     have hn1 : n1 = n + (enc m).length := by rw [H1.out.1.own.len, List.length_append, hW.out.own.len]
     have he := enc_nine hm2
     obtain ⟨a2, c2, w2, hrun, own2, gr2, new2⟩ := app_any H1.out.1.own (H1.out.2.1.sln hS.out hap.out) hc.out (by have := hb.out; omega) (Nat.le_trans hB.out H1.out.2.1.size)
     have c0 := H1.out.1.c0
     have AP : Hid ((Builtin.append_ #[27, 27] 27 #[.slice a1 n1 c1,.slice ab m cb]).run Tryd.prog w1 = .ok (.slice a2 (n1 + m) c2) w2) := hrun
     obtain ⟨hb2, hw2, hf2⟩ := H1.out.1.put gr2 new2 own2
     have c01 : w2.cell? ⟨g, 0, none⟩ = some (.slice a1 n1 c1) := by simp [World.cell?, hb2]
     have f01 : w2.frozen? ⟨g, 0, none⟩ = false := fz hb2 0
     rw [List.append_assoc] at hw2
     have W2 : Hid (Wri (w2.setCell ⟨g, 0, none⟩ (.slice a2 (n1 + m) c2)) g B a2 (n1 + m) c2 (L ++ (enc m ++ l)) s /\ Wfr w (w2.setCell ⟨g, 0, none⟩ (.slice a2 (n1 + m) c2)) g a /\ New w a a2) := ⟨hw2, H1.out.2.1.trans hf2 H1.out.2.2, H1.out.2.2.trans new2 H1.out.2.1.size⟩
     clear hrun own2 gr2 new2 hb2 hw2 hf2 hn1 he)
  | (at_builtin; refine wpList_app (by rfl) (.tmp 12) (.tmp 13) (by rfl) (by rfl) (by rfl) (by rfl) AP ?_))
 go_end0
 exact ⟨a2, n1 + m, c2, rfl, W2.out⟩
theorem eql_nil (w : World) (a : Option Addr) (n c : Nat) : (binOp .eql 27 (.slice a n c) (.slice none 0 0)).run Tryd.prog w = .ok (.bool a.isNone) w := by
 simp [binOp, run_equal_slice_nil w 27 5 a n c Tryd.underlying27]
set_option maxHeartbeats 1000000 in
theorem clone_n {w : World} {a : Option Addr} {n c : Nat} {l : List Nat} (hS : Hid (Sln w a n l)) (hc : Hid (a = none -> c = 0)) :
  Calls Tryd.prog 48 #[.slice a n c] w fun e w' => ∃ a' c', e = .returned (.slice a' n c') /\ Hid (Own w' w.heap.size a' n c' l /\ Below w.heap.size w w') := by
 cases a with
 | none =>
   have hl : l = [] := by
    rcases hS.out.sli.2.2 with h | ⟨b, off, h, _⟩
    . exact h
    . simp at h
   have hn : n = 0 := by rw [hS.out.len, hl]; rfl
   subst hl hn
   have h0 : c = 0 := hc.out rfl
   subst h0
   have EQ := eql_nil w none 0 0
   rw [show (none : Option Addr).isNone = true from rfl] at EQ
   go_enter Tryd.func48, Tryd.ntmps48
   go_wp2
   go_ret
   exact ⟨none, 0, rfl, Own.nil _ _, Below.refl _ _⟩
 | some ad =>
   have O0 : Own (w.alloc (.cells #[] 5)) w.heap.size (some ⟨w.heap.size, 0, none⟩) 0 0 [] := ⟨rfl, World.ownsRow_made w #[] 0 (Nat.le_refl _) (by unfold maxLen; omega) (by simp), by simp⟩
   have m := hS.out.sli.2.1
   have e := hS.out.len
   have b1 : Below w.heap.size w (w.alloc (.cells #[] 5)) := (Below.refl _ _).alloc (Nat.le_refl _) _
   obtain ⟨a2, c2, w2, hrun, own2, gr2, new2⟩ := app_any (c2 := c) O0 (hS.out.below b1) (by simp) (by omega) (by simp)
   rw [Nat.zero_add] at hrun own2
   have AP : Hid ((Builtin.append_ #[27, 27] 27 #[.slice (some ⟨w.heap.size, 0, none⟩) 0 0,.slice (some ad) n c]).run Tryd.prog (w.alloc (.cells #[] 5)) = .ok (.slice a2 n c2) w2) := hrun
   have F : Hid (Own w2 w.heap.size a2 n c2 l /\ Below w.heap.size w w2) := ⟨by simpa using own2, b1.grown gr2 (by simp) (fun k e => by simp [blkOf] at e; omega)⟩
   clear hrun own2 gr2 new2 b1 O0 m e
   have EQ := eql_nil w (some ad) n c
   rw [show (some ad : Option Addr).isNone = false from rfl] at EQ
   go_enter Tryd.func48, Tryd.ntmps48
   go_wp2_with (at_builtin; refine wpList_app (by rfl) (.tmp 5) (.tmp 6) (by rfl) (by rfl) (by rfl) (by rfl) AP ?_)
   go_ret
   exact ⟨a2, c2, rfl, F.out⟩
set_option maxHeartbeats 1000000 in
theorem done_n {w : World} {g B : Nat} {a : Option Addr} {n c : Nat} {L : List Nat} (hW : Hid (Wri w g B a n c L false)) (hb : Hid (n <= 140737488352256)) :
  Calls Tryd.prog 38 #[.pointer (some ⟨g, 0, none⟩)] w fun e w' => ∃ a' c', e = .returned (.tuple #[.slice a' n c', .nilIface]) /\ Hid (Own w' w.heap.size a' n c' L /\ Below w.heap.size w w') := by
 have c0 := hW.out.c0
 have c1 := hW.out.c1
 have S : Hid (Sln w a n L) := hW.out.own.sln hb.out
 have Z : Hid (a = none -> c = 0) := hW.out.own.cap0
 go_enter Tryd.func38, Tryd.ntmps38
 go_wp2_with (go_at_call 48; refine (clone_n S Z).mono ?_; rintro e w1 ⟨a1, c1', rfl, H1⟩)
 go_ret2
 exact ⟨a1, c1', rfl, H1.out⟩
end Go.Proofs.YtppibcambhmomaaDoor
namespace Go.Proofs.YtppibcambhmomaaDoor
open Go.ChangeShapes Go.WideShapes Go.ChangeAt Go.RowKit
set_option maxRecDepth 20000
set_option linter.unusedVariables false
set_option linter.unusedSimpArgs false
theorem retB {b c : Bool} (h : b = c) : Ending.returned (.bool c) = .returned (.bool b) := by rw [h]
structure Ch (w w' : World) (S : Nat -> Prop) : Prop where
 os : w'.os = w.os
 tape : w'.tape = w.tape
 output : w'.output = w.output
 size : w.heap.size <= w'.heap.size
 block : ∀ k, k < w.heap.size -> ¬ S k -> w'.heap[k]? = w.heap[k]?
theorem Ch.below {w w' : World} {S : Nat -> Prop} (h : Below w.heap.size w w') : Ch w w' S := ⟨h.os, h.tape, h.output, h.size, fun k hk _ => h.block k hk⟩
theorem Ch.refl (w : World) (S : Nat -> Prop) : Ch w w S := ⟨rfl, rfl, rfl, Nat.le_refl _, fun _ _ _ => rfl⟩
theorem Ch.trans {a b c : World} {S : Nat -> Prop} (h : Ch a b S) (k : Ch b c S) : Ch a c S :=
 ⟨k.os.trans h.os, k.tape.trans h.tape, k.output.trans h.output, Nat.le_trans h.size k.size, fun i hi hn => (k.block i (Nat.lt_of_lt_of_le hi h.size) hn).trans (h.block i hi hn)⟩
theorem Ch.then {a b c : World} {S T U : Nat -> Prop} (h : Ch a b S) (k : Ch b c T) (hs : ∀ q, q < a.heap.size -> S q -> U q) (ht : ∀ q, q < a.heap.size -> T q -> U q) : Ch a c U :=
 ⟨k.os.trans h.os, k.tape.trans h.tape, k.output.trans h.output, Nat.le_trans h.size k.size, fun i hi hn => (k.block i (Nat.lt_of_lt_of_le hi h.size) (fun x => hn (ht i hi x))).trans (h.block i hi (fun x => hn (hs i hi x)))⟩
theorem Ch.toBelow {a b : World} {S : Nat -> Prop} {B : Nat} (h : Ch a b S) (hB : B <= a.heap.size) (hs : ∀ q, q < B -> ¬ S q) : Below B a b :=
 ⟨h.os, h.tape, h.output, h.size, fun k hk => h.block k (Nat.lt_of_lt_of_le hk hB) (hs k hk)⟩
theorem Ch.cell {w w' : World} {S : Nat -> Prop} (h : Ch w w' S) {p : Addr} (hl : p.block < w.heap.size) (hp : ¬ S p.block) : w'.cell? p = w.cell? p := World.cell?_of_block (w := w) (h.block p.block hl hp)
theorem Ch.set (w : World) (g i : Nat) (v : Value) : Ch w (w.setCell ⟨g, i, none⟩ v) (fun q => q = g) := ⟨rfl, rfl, rfl, by simp [World.setCell], fun k _ hk => Below.heap_setCell _ _ _ _ hk⟩
theorem Ch.drew (w : World) (S : Nat -> Prop) : Ch w w.drew S := ⟨rfl, rfl, rfl, Nat.le_refl _, fun _ _ _ => rfl⟩
theorem alloc1 (w : World) (o : Obj) : Below w.heap.size w (w.alloc o) := (Below.refl _ w).alloc (Nat.le_refl _) o
theorem al1 {w v : World} {o : Obj} (h : Hid (w.alloc o = v)) : Hid (Below w.heap.size w v) := by rw [← h.out]; exact alloc1 w _
theorem al2 {w v : World} {o : Obj} (h : Hid (v = w.alloc o)) : Hid (Below w.heap.size w v) := by rw [h.out]; exact alloc1 w _
theorem alloc2 (w : World) (o o2 : Obj) : Below w.heap.size w ((w.alloc o).alloc o2) := (alloc1 w o).alloc (by simp) o2
theorem set_blkf {w : World} {g : Nat} {C : Array Value} {t : TypeId} {fr : Nat × Nat} (h : w.heap[g]? = some (.cells C t fr)) (i : Nat) (v : Value) : (w.setCell ⟨g, i, none⟩ v).heap[g]? = some (.cells (C.setIfInBounds i v) t fr) := by
 rw [setCell_eq_setRow w g i _ t fr _ h]
 exact setRow_heap w g _ _ t fr h
theorem rown_bel {w w' : World} {B : Nat} {t : TypeId} {z : Nat} {v : Value} {n : Nat} {xs : List Value} (h : w.ownsRow B t z v n xs) (hb : ∀ q, v.ownBlock = some q -> w'.heap[q]? = w.heap[q]?) : w'.ownsRow B t z v n xs := by
 refine ⟨h.1, h.2.imp id ?_⟩
 rintro ⟨q, cap, cur, rfl, e2, e3, e4⟩
 exact ⟨q, cap, cur, rfl, e2, (hb q rfl).trans e3, e4⟩
theorem rown_mono {w : World} {B B' : Nat} {t : TypeId} {z : Nat} {v : Value} {n : Nat} {xs : List Value} (h : w.ownsRow B t z v n xs) (hb : B' <= B) : w.ownsRow B' t z v n xs := by
 refine ⟨h.1, h.2.imp id ?_⟩
 rintro ⟨q, cap, cur, e1, e2, e3, e4⟩
 exact ⟨q, cap, cur, e1, by omega, e3, e4⟩
theorem rown_slice {w : World} {B : Nat} {t : TypeId} {z : Nat} {v : Value} {n : Nat} {xs : List Value} (h : w.ownsRow B t z v n xs) : ∃ a c, v = .slice a n c := by
 rcases h.2 with ⟨h1, h2⟩ | ⟨g, cap, cur, h1, _⟩
 . exact ⟨none, 0, by rw [h1, h2]⟩
 . exact ⟨_, _, h1⟩
theorem rown_cap0 {w : World} {B : Nat} {t : TypeId} {z : Nat} {a : Option Addr} {n c : Nat} {xs : List Value} (h : w.ownsRow B t z (.slice a n c) n xs) : a = none -> c = 0 := by
 rcases h.2 with ⟨h1, _⟩ | ⟨g, cap, cur, h1, _⟩
 . simp at h1
   exact fun _ => h1.2.2
 . simp at h1
   intro e
   rw [e] at h1
   simp at h1
theorem rown_cap {w : World} {B : Nat} {t : TypeId} {z : Nat} {a : Option Addr} {n c : Nat} {xs : List Value} (h : w.ownsRow B t z (.slice a n c) n xs) : n <= c := by
 rcases h.2 with ⟨h1, h2⟩ | ⟨g, cap, cur, h1, _, _, h4, _⟩
 . omega
 . cases h1; exact h4
theorem rown_at {w : World} {B : Nat} {t : TypeId} {z : Nat} {a : Option Addr} {n c : Nat} {xs : List Value} (h : w.ownsRow B t z (.slice a n c) n xs) (hn : 0 < n) : ∃ g, a = some ⟨g, 0, none⟩ /\ B <= g /\ g < w.heap.size /\ ∃ cur, w.heap[g]? = some (.cells cur t (0, 0)) /\ n * z <= cur.size := by
 rcases h.2 with ⟨h1, h2⟩ | ⟨g, cap, cur, h1, h2, h3, h4, h5, h6, h7⟩
 . omega
 . cases h1
   exact ⟨g, rfl, h2, (gl h3), cur, h3, by rw [h6]; exact Nat.mul_le_mul_right _ h4⟩
def iv (x : Int) : Value := .int .i64 x
structure Irow (w : World) (lo : Nat) (a : Option Addr) (n : Nat) (l : List Int) : Prop where
 len : n = l.length
 sz : n <= 17592186043904
 row : n = 0 ∨ ∃ b off, a = some ⟨b, off, none⟩ /\ lo <= b /\ b < w.heap.size /\ ∀ i, i < n -> w.cell? ⟨b, off + i, none⟩ = some (.int .i64 (l.getD i 0))
theorem Irow.keep {w w' : World} {lo : Nat} {a : Option Addr} {n : Nat} {l : List Int} (h : Irow w lo a n l) (hs : w.heap.size <= w'.heap.size) (hb : ∀ q, lo <= q -> q < w.heap.size -> w'.heap[q]? = w.heap[q]?) : Irow w' lo a n l := by
 refine ⟨h.len, h.sz, h.row.imp id ?_⟩
 rintro ⟨b, off, h1, h2, h3, h4⟩
 exact ⟨b, off, h1, h2, Nat.lt_of_lt_of_le h3 hs, fun i hi => (World.cell?_of_block (a := ⟨b, off + i, none⟩) (hb b h2 h3)).trans (h4 i hi)⟩
theorem Irow.below {w w' : World} {lo : Nat} {a : Option Addr} {n : Nat} {l : List Int} (h : Irow w lo a n l) (hb : Below w.heap.size w w') : Irow w' lo a n l := h.keep hb.size fun q _ hq => hb.block q hq
theorem Irow.mono {w : World} {lo lo' : Nat} {a : Option Addr} {n : Nat} {l : List Int} (h : Irow w lo a n l) (hl : lo' <= lo) : Irow w lo' a n l := by
 refine ⟨h.len, h.sz, h.row.imp id ?_⟩
 rintro ⟨b, off, h1, h2, h3⟩
 exact ⟨b, off, h1, Nat.le_trans hl h2, h3⟩
theorem Irow.at_ {w : World} {lo : Nat} {a : Option Addr} {n : Nat} {l : List Int} (h : Irow w lo a n l) {i : Nat} (hi : i < n) : ∃ b off, a = some ⟨b, off, none⟩ /\ w.cell? ⟨b, off + i, none⟩ = some (.int .i64 (l.getD i 0)) := by
 rcases h.row with h0 | ⟨b, off, h1, _, _, h4⟩
 . omega
 . exact ⟨b, off, h1, h4 i hi⟩
theorem irow_own {w : World} {B : Nat} {a : Option Addr} {n c : Nat} {l : List Int} (h : w.ownsRow B 3 1 (.slice a n c) n (l.map iv)) (hz : n <= 17592186043904) : Irow w B a n l := by
 have hl : n = l.length := by have := h.1; simp at this; omega
 refine ⟨hl, hz, ?_⟩
 by_cases h0 : n = 0
 . exact .inl h0
 . obtain ⟨g, rfl, h2, h3, _⟩ := rown_at h (by omega)
   refine .inr ⟨g, 0, rfl, h2, h3, fun i hi => ?_⟩
   rw [Nat.zero_add, h.cellAt i (by omega)]
   have hi2 : i < l.length := by omega
   simp [iv, List.getD, hi2]
set_option maxHeartbeats 1000000 in
theorem sameInts_n {w : World} {lo lo2 : Nat} {a b : Option Addr} {n m c d : Nat} {l r : List Int} (hA : Hid (Irow w lo a n l)) (hB : Hid (Irow w lo2 b m r)) :
  Calls Tryd.prog 57 #[.slice a n c,.slice b m d] w fun e w' => e = .returned (.bool (decide (l = r))) /\ Hid (Below w.heap.size w w') := by
 have hsz := hA.out.sz
 have hsz2 := hB.out.sz
 by_cases hnm : n = m
 . subst hnm
   have LL : Hid (l.length = n /\ r.length = n) := ⟨hA.out.len.symm, hB.out.len.symm⟩
   go_enter Tryd.func57, Tryd.ntmps57
   go_wp2
   go_loopw [13] (fun ti wr => ∃ k : Nat, k <= n /\ ti = .int .i64 k /\ Hid (∀ j, j < k -> l.getD j 0 = r.getD j 0) /\ Hid (Below w.heap.size w wr)) (fun ti _ => n - (intOf ti).toNat)
   case atStart => exact ⟨0, by omega, rfl, fun j hj => by omega, Below.refl _ _⟩
   case round =>
    obtain ⟨k, hk, rfl, HK, HB⟩ := hrel
    by_cases hlt : k < n
    . have i3 : (k : Int) < (n : Int) := by omega
      obtain ⟨b1, o1, rfl, e1⟩ := (hA.out.below HB.out).at_ hlt
      obtain ⟨b2, o2, rfl, e2⟩ := (hB.out.below HB.out).at_ hlt
      obtain ⟨x, Hx⟩ := nm (l.getD k 0)
      obtain ⟨y, Hy⟩ := nm (r.getD k 0)
      rw [Hx.out] at e1
      rw [Hy.out] at e2
      by_cases hxy : x = y
      . subst hxy
        have NX : Hid (∀ j, j < k + 1 -> l.getD j 0 = r.getD j 0) := fun j hj => by
         by_cases hjk : j = k
         . subst hjk; rw [Hx.out, Hy.out]
         . exact HK.out j (by omega)
        go_wp2
        go_quiet (fail)
        go_wp2
        go_roundw
        case rel => exact ⟨k + 1, by omega, by go_num, NX.out, below_drewN HB.out _⟩
        case measure => simp [intOf]; omega
      . have NE : Hid (decide (l = r) = false) := decide_eq_false (fun h => hxy (by rw [<- Hx.out, <- Hy.out, h]))
        go_wp2
        go_quiet (fail)
        go_wp2
        go_ret
        exact ⟨retB NE.out, below_drewN HB.out _⟩
    . have EQ : Hid (decide (l = r) = true) := decide_eq_true (List.ext_getElem (by rw [LL.out.1, LL.out.2]) (fun i h1 h2 => by
       have h3 := HK.out i (by have := LL.out; omega)
       simpa [List.getD, h1, h2] using h3))
      go_wp2
      go_ret
      exact ⟨retB EQ.out, HB.out⟩
 . have NE : Hid (decide (l = r) = false) := decide_eq_false (fun h => hnm (by rw [hA.out.len, hB.out.len, h]))
   have i3 : ¬ ((n : Int) = (m : Int)) := by omega
   go_enter Tryd.func57, Tryd.ntmps57
   go_wp2
   go_ret
   exact ⟨retB NE.out, Below.refl _ _⟩
structure Cm where
 k : Int
 i0 : Int
 i1 : Int
 i2 : Int
 bu : ByteArray
 ke : ByteArray
 u0 : Int
 u1 : Int
 u2 : Int
 b0 : Int
 b1 : Int
 b2 : Int
 sz : Int
 et : ByteArray
 pt : Int
 ps : List Int
 tm : Int
 dy : Int
theorem Cm.eq_iff (x y : Cm) : (x.k = y.k /\ x.i0 = y.i0 /\ x.i1 = y.i1 /\ x.i2 = y.i2 /\ x.bu = y.bu /\ x.ke = y.ke /\ x.u0 = y.u0 /\ x.u1 = y.u1 /\ x.u2 = y.u2 /\ x.b0 = y.b0 /\ x.b1 = y.b1 /\ x.b2 = y.b2 /\ x.sz = y.sz /\ x.et = y.et /\ x.pt = y.pt /\ x.ps = y.ps /\ x.tm = y.tm /\ x.dy = y.dy) ↔ x = y := by
 cases x; cases y; simp
instance : DecidableEq Cm := fun x y => decidable_of_iff _ (Cm.eq_iff x y)
structure Cx where
 cm : Cm
 pa : Option Addr
 pn : Nat
 pc : Nat
def encX (x : Cx) : List Value := [.int .i64 x.cm.k,.int .i64 x.cm.i0,.int .i64 x.cm.i1,.int .i64 x.cm.i2,.string x.cm.bu,.string x.cm.ke,.int .i64 x.cm.u0,.int .i64 x.cm.u1,.int .i64 x.cm.u2,.int .i64 x.cm.b0,.int .i64 x.cm.b1,.int .i64 x.cm.b2,.int .i64 x.cm.sz,.string x.cm.et,.int .i64 x.cm.pt,.slice x.pa x.pn x.pc,.int .i64 x.cm.tm,.int .i64 x.cm.dy]
theorem encX_len (x : Cx) : (encX x).length = 18 := rfl
theorem encX_one (x : Cx) : ∀ v ∈ encX x, v.oneCell' = true := fun v hv => by
 simp only [encX, List.mem_cons, List.not_mem_nil, or_false] at hv
 rcases hv with rfl | rfl | rfl | rfl | rfl | rfl | rfl | rfl | rfl | rfl | rfl | rfl | rfl | rfl | rfl | rfl | rfl | rfl <;> rfl
theorem partI (xs : Array Value) (i : Nat) (x : Int) (h : xs[i]? = some (.int .i64 x)) (w : World) : (part 3 xs i).run Tryd.prog w = .ok (.int .i64 x) w := by simp [part, go_sem, h]
theorem partS (xs : Array Value) (i : Nat) (x : ByteArray) (h : xs[i]? = some (.string x)) (w : World) : (part 9 xs i).run Tryd.prog w = .ok (.string x) w := by simp [part, go_sem, h]
theorem eqI (d : Nat) (x y : Int) (w : World) : (Op.equalIn (d + 1) 3 (.int .i64 x) (.int .i64 y)).run Tryd.prog w = .ok (decide (x = y)) w := by
 rw [run_equalIn_int w d 3 .i64 .i64 x y Tryd.underlying3]
 by_cases h : x = y <;> simp [h]
theorem eqS (d : Nat) (x y : ByteArray) (w : World) : (Op.equalIn (d + 1) 9 (.string x) (.string y)).run Tryd.prog w = .ok (decide (x = y)) w := by
 rw [run_equalIn_string w d 9 x y Tryd.underlying9]
 have e : (x.toList == y.toList) = decide (x = y) := by
  rw [ByteArray.toList_eq, ByteArray.toList_eq]
  by_cases h : x = y
  . subst h; simp
  . have h2 : ¬ (x.data.toList = y.data.toList) := fun e => h (ByteArray.ext (Array.toList_inj.1 e))
    rw [decide_eq_false h]
    simpa using h2
 rw [e]
theorem fstep {d : Nat} {xs ys : Array Value} {f : Field} {fs : List Field} {a b : Value} {r s : Bool} {w : World} (hn : f.name ≠ "_") (ha : (part f.type xs f.offset).run Tryd.prog w = .ok a w) (hb : (part f.type ys f.offset).run Tryd.prog w = .ok b w) (he : (Op.equalIn d f.type a b).run Tryd.prog w = .ok r w) (hs : (Op.eqFields d xs ys fs).run Tryd.prog w = .ok s w) :
  (Op.eqFields d xs ys (f :: fs)).run Tryd.prog w = .ok (r && s) w := by
 simp only [Op.eqFields, if_pos hn, Sem.run_bind, ha, hb, he, Result.andThen_ok]
 cases r
 . simp
 . simpa using hs
theorem fend (d : Nat) (xs ys : Array Value) (w : World) : (Op.eqFields d xs ys []).run Tryd.prog w = .ok true w := by simp [Op.eqFields]
abbrev idv (a b c : Int) : Value := .agg #[.int .i64 a,.int .i64 b,.int .i64 c]
theorem eqId (a b c a' b' c' : Int) (k : Nat) (w : World) : (Op.equalIn (k + 2) 23 (idv a b c) (idv a' b' c')).run Tryd.prog w = .ok (decide (a = a' /\ b = b' /\ c = c')) w := by
 rw [run_equalIn_struct w (k + 1) 23 _ _ (by kernel_rfl) (by kernel_rfl)]
 simp only [Program.fieldsOf, Tryd.underlying23]
 rw [fstep (by decide) (partI _ _ a rfl w) (partI _ _ a' rfl w) (eqI _ a a' w) (fstep (by decide) (partI _ _ b rfl w) (partI _ _ b' rfl w) (eqI _ b b' w) (fstep (by decide) (partI _ _ c rfl w) (partI _ _ c' rfl w) (eqI _ c c' w) (fend _ _ _ w)))]
 congr 1
 simp
theorem partId (xs : Array Value) (a b c : Int) (h0 : xs[0]? = some (.int .i64 a)) (h1 : xs[1]? = some (.int .i64 b)) (h2 : xs[2]? = some (.int .i64 c)) (w : World) : (part 23 xs 0).run Tryd.prog w = .ok (idv a b c) w := by
 obtain ⟨l⟩ := xs
 match l, h0, h1, h2 with
 | x :: y :: z :: r, h0, h1, h2 =>
   simp at h0 h1 h2
   subst h0 h1 h2
   simp [part, go_sem]
theorem eqPc (a b c s : Int) (t : ByteArray) (a' b' c' s' : Int) (t' : ByteArray) (w : World) : (Op.equalIn 10000 58 (.agg #[.int .i64 a,.int .i64 b,.int .i64 c,.int .i64 s,.string t]) (.agg #[.int .i64 a',.int .i64 b',.int .i64 c',.int .i64 s',.string t'])).run Tryd.prog w = .ok (decide ((a = a' /\ b = b' /\ c = c') /\ s = s' /\ t = t')) w := by
 rw [run_equalIn_struct w 9999 58 _ _ (by kernel_rfl) (by kernel_rfl)]
 simp only [Program.fieldsOf, Tryd.underlying58]
 rw [fstep (by decide) (partId _ a b c rfl rfl rfl w) (partId _ a' b' c' rfl rfl rfl w) (eqId a b c a' b' c' 9997 w) (fstep (by decide) (partI _ _ s rfl w) (partI _ _ s' rfl w) (eqI _ s s' w) (fstep (by decide) (partS _ _ t rfl w) (partS _ _ t' rfl w) (eqS _ t t' w) (fend _ _ _ w)))]
 congr 1
 simp
end Go.Proofs.YtppibcambhmomaaDoor
