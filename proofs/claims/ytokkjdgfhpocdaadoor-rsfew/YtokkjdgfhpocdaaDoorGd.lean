/- Lists of shards by their cells: what is appended, what Decode reads. -/
import Derived.Test.YtokkjdgfhpocdaaDoorGa
import Derived.Test.YtokkjdgfhpocdaaDoorGc
import Derived.Test.YtokkjdgfhpocdaaDoorWn
namespace Go.Proofs.YtokkjdgfhpocdaaDoor
open Go.ChangeShapes Go.WideShapes Go.ChangeAt Go.RowKit
set_option linter.unusedVariables false
set_option linter.unusedSimpArgs false
/- a shard in memory: its number, the slice that is its second cell, the bytes that this reads as -/
abbrev Tr := Int × Value × List Nat
def cel (T : List Tr) : List Value := T.flatMap fun e => [.int .i64 e.1, e.2.1]
def lst (T : List Tr) : List (Int × List Nat) := T.map fun e => (e.1, e.2.2)
structure Vs (w : World) (e : Tr) : Prop where
  wf : (Lit.int .i64 e.1).wf = true
  ex : ∃ a m c, e.2.1 = .slice a m c ∧ Sln w a m e.2.2 ∧ m ≤ c ∧ c ≤ 140737488351232 ∧ (a = none → c = 0)
def Ok (w : World) (T : List Tr) : Prop := ∀ e ∈ T, Vs w e
theorem Vs.below {w w' : World} {e : Tr} (h : Vs w e) (hb : Below w.heap.size w w') : Vs w' e := by
  obtain ⟨a, m, c, h1, h2, h3⟩ := h.ex
  exact ⟨h.wf, a, m, c, h1, h2.below hb, h3⟩
theorem Ok.below {w w' : World} {T : List Tr} (h : Ok w T) (hb : Below w.heap.size w w') : Ok w' T := fun e he => (h e he).below hb
theorem Ok.append {w : World} {A B : List Tr} (h1 : Ok w A) (h2 : Ok w B) : Ok w (A ++ B) := fun e he => by
  rcases List.mem_append.1 he with h | h
  · exact h1 e h
  · exact h2 e h
theorem cel_cons (e : Tr) (T : List Tr) : cel (e :: T) = .int .i64 e.1 :: e.2.1 :: cel T := by simp [cel]
theorem cel_append (A B : List Tr) : cel (A ++ B) = cel A ++ cel B := by simp [cel]
theorem cel_length (T : List Tr) : (cel T).length = T.length * 2 := by
  induction T with
  | nil => rfl
  | cons e T ih => rw [cel_cons]; simp [ih]; omega
theorem cel_take (T : List Tr) (d : Nat) (hd : d ≤ T.length) : cel (T.take d) = (cel T).take (d * 2) := by
  have h := cel_append (T.take d) (T.drop d)
  rw [List.take_append_drop] at h
  have hl : (cel (T.take d)).length = d * 2 := by rw [cel_length]; simp; omega
  rw [h, ← hl, List.take_left]
theorem cel_drop (T : List Tr) (d : Nat) (hd : d ≤ T.length) : cel (T.drop d) = (cel T).drop (d * 2) := by
  have h := cel_append (T.take d) (T.drop d)
  rw [List.take_append_drop] at h
  have hl : (cel (T.take d)).length = d * 2 := by rw [cel_length]; simp; omega
  rw [h, ← hl, List.drop_left]
theorem cel_at (T : List Tr) (i : Nat) (e : Tr) (h : T[i]? = some e) : (cel T)[i * 2]? = some (.int .i64 e.1) ∧ (cel T)[i * 2 + 1]? = some e.2.1 := by
  induction T generalizing i with
  | nil => simp at h
  | cons x T ih =>
    rw [cel_cons]
    cases i with
    | zero => simp at h; subst h; simp
    | succ i =>
      simp at h
      have := ih i h
      have e1 : (i + 1) * 2 = i * 2 + 1 + 1 := by omega
      rw [e1]
      simpa using this
theorem cel_one {w : World} {T : List Tr} (h : Ok w T) : ∀ u ∈ cel T, u.oneCell' = true := by
  intro u hu
  simp only [cel, List.mem_flatMap] at hu
  obtain ⟨e, he, hu⟩ := hu
  obtain ⟨a, m, c, h1, _⟩ := (h e he).ex
  rw [h1] at hu
  simp at hu
  rcases hu with rfl | rfl <;> rfl
theorem lst_get {T : List Tr} {i : Nat} {e : Tr} (h : T[i]? = some e) : nu (lst T) i = e.1 ∧ by_ (lst T) i = e.2.2 := by
  simp [nu, by_, lst, List.getD, h]
/- where the cells of T lie -/
def Lie (w : World) (b off : Nat) (T : List Tr) : Prop := ∀ j u, (cel T)[j]? = some u → w.cell? ⟨b, off + j, none⟩ = some u
theorem Lie.below {w w' : World} {b off : Nat} {T : List Tr} (h : Lie w b off T) (hb : Below w.heap.size w w') : Lie w' b off T := fun j u hu => (hb.cell (p := ⟨b, off + j, none⟩) (cell_lt' (h j u hu))).trans (h j u hu)
theorem Lie.shd {w : World} {b off : Nat} {T : List Tr} (h : Lie w b off T) (ok : Ok w T) (hn : T.length ≤ 1000) : Shd w (some ⟨b, off, none⟩) T.length (lst T) := by
  refine ⟨by simp [lst], by omega, .inr ⟨b, off, rfl, fun i hi => ?_⟩, fun i hi => ?_⟩
  · have he := List.getElem?_eq_getElem hi
    obtain ⟨a, m, c, h1, h2, h3⟩ := (ok T[i] (List.getElem_mem hi)).ex
    obtain ⟨c0, c1⟩ := cel_at T i _ he
    rw [h1] at c1
    have g0 := h _ _ c0
    have g1 := h _ _ c1
    rw [(lst_get he).1, (lst_get he).2]
    exact ⟨g0, a, m, c, by rw [Nat.add_assoc]; exact g1, h2, h3⟩
  · have he := List.getElem?_eq_getElem hi
    rw [(lst_get he).1]
    exact (ok T[i] (List.getElem_mem hi)).wf
theorem cell_val {w : World} {b off : Nat} {T : List Tr} (h : Lie w b off T) (i : Nat) (e : Tr) (he : T[i]? = some e) : w.cell? ⟨b, off + i * 2, none⟩ = some (.int .i64 e.1) ∧ w.cell? ⟨b, off + i * 2 + 1, none⟩ = some e.2.1 := by
  obtain ⟨c0, c1⟩ := cel_at T i e he
  exact ⟨h _ _ c0, by rw [Nat.add_assoc]; exact h _ _ c1⟩
theorem lie_of {w : World} {b off n : Nat} {L : List (Int × List Nat)} (h : Shd w (some ⟨b, off, none⟩) n L) (hn : 1 ≤ n) : ∃ T, lst T = L ∧ T.length = n ∧ Ok w T ∧ Lie w b off T := by
  obtain ⟨b', off', e1, hc⟩ := h.at_.resolve_left (by omega)
  simp at e1
  obtain ⟨rfl, rfl⟩ := e1
  have hV : ∀ i, ∃ v, i < n → w.cell? ⟨b, off + i * 2, none⟩ = some (.int .i64 (nu L i)) ∧ w.cell? ⟨b, off + i * 2 + 1, none⟩ = some v ∧ Vs w (nu L i, v, by_ L i) := by
    intro i
    by_cases hi : i < n
    · obtain ⟨c0, a, m, c, c1, s, r⟩ := hc i hi
      exact ⟨.slice a m c, fun _ => ⟨c0, c1, h.wf i hi, a, m, c, rfl, s, r⟩⟩
    · exact ⟨undef, fun h => absurd h hi⟩
  obtain ⟨V, hV⟩ := Classical.axiomOfChoice hV
  have hl := h.len
  refine ⟨(List.range n).map fun i => (nu L i, V i, by_ L i), ?_, by simp, ?_, ?_⟩
  · apply List.ext_getElem
    · simp [lst, hl]
    · intro i h1 h2
      have e : L.getD i (0, []) = L[i] := by simp [List.getD, h2]
      simp [lst, nu, by_, List.getD, h2]
  · intro e he
    simp at he
    obtain ⟨i, hi, rfl⟩ := he
    exact (hV i hi).2.2
  · intro j u hu
    have hj : j < n * 2 := by
      have := (List.getElem?_eq_some_iff.1 hu).1
      rw [cel_length] at this
      simpa using this
    have hi : j / 2 < n := by omega
    have he : ((List.range n).map fun i => ((nu L i, V i, by_ L i) : Tr))[j / 2]? = some (nu L (j / 2), V (j / 2), by_ L (j / 2)) := by simp [hi]
    obtain ⟨c0, c1⟩ := cel_at _ _ _ he
    obtain ⟨d0, d1, _⟩ := hV _ hi
    by_cases h2 : j % 2 = 0
    · have e : j / 2 * 2 = j := by omega
      rw [e] at c0 d0
      rw [c0] at hu
      simp only [Option.some.injEq] at hu
      rw [← hu]; exact d0
    · have e : j / 2 * 2 + 1 = j := by omega
      have e2 : off + j / 2 * 2 + 1 = off + j := by omega
      rw [e] at c1
      rw [e2] at d1
      rw [c1] at hu
      simp only [Option.some.injEq] at hu
      rw [← hu]; exact d1
/- a row of shards of the call's own -/
def Oro (w : World) (B g cap : Nat) (T : List Tr) : Prop := w.ownsRow B 54 2 (.slice (some ⟨g, 0, none⟩) T.length cap) T.length (cel T)
theorem Oro.new (w : World) (B : Nat) (hB : B ≤ w.heap.size) : Oro (w.alloc (.cells #[] 54)) B w.heap.size 0 [] :=
  World.ownsRow_made w #[] 0 hB (by unfold maxLen; omega) (by simp)
theorem Oro.lie {w : World} {B g cap : Nat} {T : List Tr} (h : Oro w B g cap T) : Lie w g 0 T := fun j u hu => by
  have := h.cells (g := g) rfl j u hu
  rwa [Addr.add_mid] at this
theorem Oro.lt {w : World} {B g cap : Nat} {T : List Tr} (h : Oro w B g cap T) : B ≤ g ∧ g < w.heap.size := World.ownsRow.lt h g rfl
theorem Oro.alloc {w : World} {B g cap : Nat} {T : List Tr} (h : Oro w B g cap T) (o : Obj) : Oro (w.alloc o) B g cap T := World.ownsRow.alloc h o
theorem Oro.below {w w' : World} {B g cap : Nat} {T : List Tr} (h : Oro w B g cap T) (hb : Below w.heap.size w w') : Oro w' B g cap T := by
  refine ⟨h.1, ?_⟩
  rcases h.2 with ⟨h1, _⟩ | ⟨g', cap', cur, h1, h2, hg, h3⟩
  · simp at h1
  · exact .inr ⟨g', cap', cur, h1, h2, (hb.block g' (Array.getElem?_eq_some_iff.1 hg).1).trans hg, h3⟩
theorem Oro.blk {w : World} {B g cap : Nat} {T : List Tr} (h : Oro w B g cap T) : ∃ cur, w.heap[g]? = some (.cells cur 54 (0, 0)) := by
  rcases h.2 with ⟨h1, _⟩ | ⟨g', cap', cur, h1, _, hg, _⟩
  · simp at h1
  · simp at h1
    obtain ⟨rfl, _⟩ := h1
    exact ⟨cur, hg⟩
theorem app_T {w : World} {B g cap b off m c : Nat} {A X : List Tr} (own : Oro w B g cap A) (hX : Lie w b off X) (ok : Ok w X) (hm : X.length = m) (hB : B ≤ w.heap.size) (hn : A.length + X.length ≤ 1000) :
    ∃ g' cap' w', (Builtin.append_ #[43, 43] 43 #[.slice (some ⟨g, 0, none⟩) A.length cap, .slice (some ⟨b, off, none⟩) m c]).run Tryd.prog w = .ok (.slice (some ⟨g', 0, none⟩) (A.length + m) cap') w' ∧ Oro w' B g' cap' (A ++ X) ∧ w.grownBy w' (some g) := by
  subst hm
  obtain ⟨x, hx, hz0, hz1, hz2⟩ := info_parts info54
  obtain ⟨v', w', hrun, hown, hgr, hnil⟩ := run_append_own (P := Tryd.prog) (w := w) B 43 43 54 x _ 2 32 Tryd.underlying43 hx hz0 hz1 hz2 rfl (by decide) _ A.length (cel A) own ⟨b, off, none⟩ X.length c (cel X) (cel_length X) (fun j u hu => by
      rw [Addr.add_mid]
      exact hX j u hu) (cel_one ok) (by unfold maxLen; omega) (by omega) hB
  rcases hown.2 with ⟨h0, _⟩ | ⟨g', cap', cur, rfl, _⟩
  · have := hnil.1 h0
    simp at this
  · refine ⟨g', cap', w', hrun, ?_, hgr⟩
    unfold Oro
    rw [cel_append, List.length_append]
    exact hown
/- contracts of Good, parted -/
theorem good_t (k m size c : Nat) (a : Option Addr) (L : List (Int × List Nat)) (w : World) (h2 : 1 ≤ k) (h3 : k + m ≤ 16) (hsz : size ≤ 1100) (S : Hid (Shd w a k L)) (G : Hid (GoodL (k + m) size L)) :
    Calls Tryd.prog 26 #[.int .i64 (k : Int), .int .i64 (m : Int), .int .i64 (size : Int), .slice a k c] w fun e w' => e = .returned (.bool true) ∧ Hid (Below w.heap.size w w') := by
  refine (good_any k m size k c a L w h2 h3 hsz S).mono ?_
  rintro e w' ⟨r, rfl, H⟩
  have := H.out.1.2 ⟨rfl, G.out⟩
  subst this
  exact ⟨rfl, H.out.2⟩
theorem good_f (k m size n c : Nat) (a : Option Addr) (L : List (Int × List Nat)) (w : World) (h2 : 1 ≤ k) (h3 : k + m ≤ 16) (hsz : size ≤ 1100) (S : Hid (Shd w a n L)) (G : Hid (¬ (n = k ∧ GoodL (k + m) size L))) :
    Calls Tryd.prog 26 #[.int .i64 (k : Int), .int .i64 (m : Int), .int .i64 (size : Int), .slice a n c] w fun e w' => e = .returned (.bool false) ∧ Hid (Below w.heap.size w w') := by
  refine (good_any k m size n c a L w h2 h3 hsz S).mono ?_
  rintro e w' ⟨r, rfl, H⟩
  have : r = false := by
    cases r with
    | false => rfl
    | true => exact absurd (H.out.1.1 rfl) G.out
  subst this
  exact ⟨rfl, H.out.2⟩
end Go.Proofs.YtokkjdgfhpocdaaDoor
