import Derived.Test.YtkdgakcmhnadfaaGreatDoorMKl
import Derived.Test.YtkdgakcmhnadfaaGreatDoorMNa
/- Ni -/
/- An argument that is an id, two rows of bytes and a bool; the library's MaxLen by the world's shape. -/
namespace Go.Proofs.YtkdgakcmhnadfaaGreatDoor
open Go.ChangeShapes Go.WideShapes Go.ChangeAt Go.RowKit
set_option maxRecDepth 20000
set_option linter.unusedVariables false
set_option linter.unusedSimpArgs false
theorem types41 : Tryz.prog.cellTypes Tryz.prog.depth 41 = some [3, 3, 3, 33, 33, 4] := by kernel_rfl
theorem cells41 : Tryz.prog.cellsOf 41 = 6 := by kernel_rfl
theorem cells33 : Tryz.prog.cellsOf 33 = 1 := by kernel_rfl
theorem cell4 {W : World} {r : Reach} {base : Nat} {v : Value} (h : Cell.okWide Tryz.prog W r base 4 v) : ∃ y : Bool, v = .bool y := by
  simp only [Tryz.underlying4, Cell.okWide] at h
  cases v <;> simp_all [Cell.ok]
theorem open41 {H : Type} {enc : TypeId × Value → H} {W : World} {b0 : Nat} {v : Value} {d : DataW H} {p : List MemPlace} (hv : Value.okWide Tryz.prog W .any b0 41 v) (h : DataW.Trod enc Tryz.prog W 0 (fun _ => true) true 41 v d p) (hsz : ∀ n ∈ d.weights Tryz.prog 41, n ≤ reachBytes) :
    ∃ (a b c : Int) (sa : Option Addr) (n k : Nat) (l : List Nat) (sa' : Option Addr) (n' k' : Nat) (l' : List Nat) (y : Bool), v = .agg #[.int .i64 a, .int .i64 b, .int .i64 c, .slice sa n k, .slice sa' n' k', .bool y] ∧ I64 a ∧ I64 b ∧ I64 c ∧ Hid (Sln W sa n l) ∧ n ≤ k ∧ Hid (sa = none → k = 0) ∧ Hid (Sln W sa' n' l') ∧ n' ≤ k' ∧ Hid (sa' = none → k' = 0) := by
  simp only [Value.okWide, Tryz.underlying41] at hv
  obtain ⟨cs, rfl, hn, ts, ht, _, hc⟩ := hv
  rw [types41] at ht
  obtain rfl := Option.some.inj ht
  rw [cells41] at hn
  obtain ⟨l⟩ := cs
  match l, hn with
  | [c0, c1, c2, c3, c4, c5], _ =>
    have g3 : ∀ (i : Nat) (v : Value), #[c0, c1, c2, c3, c4, c5][i]? = some v → ([3, 3, 3, 33, 33, 4] : List Nat)[i % 6]? = some 3 → ∃ x, v = .int .i64 x ∧ I64 x := fun i v hv h3 => by
      obtain ⟨u, hu, hk⟩ := hc i v hv
      have hu' : ([3, 3, 3, 33, 33, 4] : List Nat)[i % 6]? = some u := hu
      rw [h3] at hu'
      obtain rfl := Option.some.inj hu'
      exact cell3 hk
    obtain ⟨a, rfl, ia⟩ := g3 0 c0 rfl rfl
    obtain ⟨b, rfl, ib⟩ := g3 1 c1 rfl rfl
    obtain ⟨c, rfl, ic⟩ := g3 2 c2 rfl rfl
    obtain ⟨u, hu, hk⟩ := hc 5 c5 rfl
    have hu' : ([3, 3, 3, 33, 33, 4] : List Nat)[5]? = some u := hu
    obtain rfl : 4 = u := by simpa using hu'
    obtain ⟨y, rfl⟩ := cell4 hk
    obtain ⟨fuel, hf⟩ := h
    obtain ⟨xs, m, _, hx, _, hl, hall⟩ := DataW.trod_struct Tryz.underlying41 hf
    have h1 := hall 1 _ rfl
    have h2 := hall 2 _ rfl
    match xs, hl with
    | [y0, y1, y2, y3], _ =>
      simp [Value.cells, cells33] at h1
      simp [Value.cells, cells33] at h2
      simp only [Prod.mk.injEq] at hx
      have hd : d = .agg [y0.1, y1.1, y2.1, y3.1] := by simpa using hx.1
      have w1 : ∀ n ∈ y1.1.weights Tryz.prog 33, n ≤ reachBytes := fun n hn => hsz n (by rw [hd]; simp only [DataW.weights, Tryz.underlying41]; simp [DataW.weightsEach, hn])
      have w2 : ∀ n ∈ y2.1.weights Tryz.prog 33, n ≤ reachBytes := fun n hn => hsz n (by rw [hd]; simp only [DataW.weights, Tryz.underlying41]; simp [DataW.weightsEach, hn])
      obtain ⟨sa, n, k, l, rfl, S0, hk0, hm0⟩ := open_bytes h1 w1
      obtain ⟨sa', n', k', l', rfl, S1, hk1, hm1⟩ := open_bytes h2 w2
      exact ⟨a, b, c, sa, n, k, l, sa', n', k', l', y, rfl, ia, ib, ic, S0, hk0, nil_cap27 h1, S1, hk1, nil_cap27 h2⟩
theorem types3 : Tryz.prog.cellTypes Tryz.prog.depth 3 = some [3] := by kernel_rfl
theorem mxl_of {W : World} (h : W.ShapedOpen Tryz.prog) : Mxl W := by
  obtain ⟨cs, hh, hs, hr⟩ := h.1 22 #[.int .i64 0] 3 (of_decide_eq_true (by kernel_rfl)) (by kernel_rfl)
  obtain ⟨ts, hts, _, hall⟩ := hr (by kernel_rfl)
  rw [types3] at hts
  obtain rfl := Option.some.inj hts
  have h1 : 0 < cs.size := by rw [hs]; decide
  obtain ⟨u, hu, hok⟩ := hall 0 cs[0] (by simp [h1])
  have hu' : u = 3 := by simpa using hu.symm
  subst hu'
  have hx : ∃ m, cs[0] = .int .i64 m := by
    generalize cs[0] = v at hok
    simp only [Cell.ok, Tryz.underlying3] at hok
    cases v <;> simp_all
  obtain ⟨m, hm⟩ := hx
  exact ⟨m, by simp [World.cell?, hh, h1, hm]⟩
end Go.Proofs.YtkdgakcmhnadfaaGreatDoor
