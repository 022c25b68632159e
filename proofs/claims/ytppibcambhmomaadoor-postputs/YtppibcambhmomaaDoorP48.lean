import Derived.Test.YtppibcambhmomaaDoorPp
import Derived.Test.YtppibcambhmomaaDoorP18
import Derived.Test.YtppibcambhmomaaDoorP13
import Derived.Deep.SlicePairs
import Derived.Test.YtppibcambhmomaaDoorP09
import Derived.Test.YtppibcambhmomaaDoorP07
namespace Go.Proofs.YtppibcambhmomaaDoor
open Go.ChangeShapes Go.WideShapes Go.ChangeAt Go.RowKit
set_option maxRecDepth 20000
set_option linter.unusedVariables false
set_option linter.unusedSimpArgs false
structure Nz (w W : World) (g : Nat) (a b c : Int) : Prop where
 h : W.heap[g]? = some (.cells #[.int .i64 a,.int .i64 b,.int .i64 c] 23 (0, 0))
 bel : Below w.heap.size w W
def I64 (a : Int) : Prop := -9223372036854775808 <= a /\ a <= 9223372036854775807
theorem cells23 : Tryd.prog.cellsOf 23 = 3 := by kernel_rfl
section
variable {H : Type} {enc : TypeId × Value -> H} {W : World} {fuel : Nat} {y : DataW H × List MemPlace}
theorem open_str {v : Value} (hf : DataW.trod enc Tryd.prog W 0 (fun _ => true) true fuel 9 [v] = some y) (hsz : ∀ n ∈ y.1.weights Tryd.prog 9, n <= reachBytes) : ∃ s : ByteArray, v = .string s /\ s.size <= 281474976710656 := by
 obtain ⟨z, h1, h2, _⟩ := DataW.trod_string Tryd.underlying9 hf
 simp at h1
 subst h1
 refine ⟨z, rfl, ?_⟩
 rw [h2] at hsz
 have h := hsz z.data.toList.length (by simp [DataW.weights])
 have e : z.data.toList.length = z.size := by rw [Array.length_toList]; rfl
 rw [e] at h
 simp only [reachBytes] at h
 omega
end
end Go.Proofs.YtppibcambhmomaaDoor
namespace Go.Proofs.YtppibcambhmomaaDoor
open Go.ChangeShapes Go.WideShapes Go.ChangeAt Go.RowKit Go.Deep
set_option maxRecDepth 20000
set_option linter.unusedVariables false
set_option linter.unusedSimpArgs false
instance : Inhabited Cx := ⟨⟨⟨0, 0, 0, 0, ⟨#[]⟩, ⟨#[]⟩, 0, 0, 0, 0, 0, 0, 0, ⟨#[]⟩, 0, [], 0, 0⟩, none, 0, 0⟩⟩
theorem cells3 : Tryd.prog.cellsOf 3 = 1 := by kernel_rfl
theorem cells26 : Tryd.prog.cellsOf 55 = 1 := by kernel_rfl
theorem cells25 : Tryd.prog.cellsOf 58 = 5 := by kernel_rfl
theorem cells28 : Tryd.prog.cellsOf 60 = 18 := by kernel_rfl
theorem bytes3 : Tryd.prog.bytesOf 3 = 8 := by kernel_rfl
theorem bytes28 : Tryd.prog.bytesOf 60 = 184 := by kernel_rfl
theorem weightsAll_mem {H : Type} {P : Program} {e : TypeId} : ∀ {ds : List (DataW H)} {d : DataW H}, d ∈ ds -> ∀ n ∈ d.weights P e, n ∈ DataW.weightsAll P e ds
 | [], d, h, n, hn => by cases h
 | d' :: r, d, h, n, hn => by
   simp only [DataW.weightsAll, List.mem_append]
   rcases List.mem_cons.1 h with rfl | h
   . exact .inl hn
   . exact .inr (weightsAll_mem h n hn)
section
variable {H : Type} {enc : TypeId × Value -> H} {W : World} {fuel : Nat} {y : DataW H × List MemPlace}
theorem open_il {v : Value} (hf : DataW.trod enc Tryd.prog W 0 (fun _ => true) true fuel 55 [v] = some y) (hsz : ∀ n ∈ y.1.weights Tryd.prog 55, n <= reachBytes) :
  ∃ a n k l, v = .slice a n k /\ Irow W 0 a n l /\ n <= k /\ (a = none -> k = 0) := by
 rcases open_ints Tryd.underlying55 Tryd.underlying3 cells3 hf with ⟨hcs, _⟩ | ⟨x, n, k, zs, hcs, _, hl, _, hz, hx, hcell, hwz⟩
 . simp at hcs
   exact ⟨none, 0, 0, [], hcs, ⟨rfl, by omega, .inl rfl⟩, by omega, fun _ => rfl⟩
 . simp at hcs
   have hz : zs.length = k := by simpa using hz
   have hk : k <= 17592186043904 := by
    have h := hsz (((lits (H := H) .i64 (zs.take n)).length + (lits (H := H) .i64 (zs.drop n)).length) * 8) (by
     rw [hx]; simp only [DataW.weights, Tryd.underlying55, bytes3]; simp)
    simp only [lits, List.length_map, List.length_take, List.length_drop, reachBytes] at h
    omega
   refine ⟨some x, n, k, zs.take n, hcs, ⟨by simp; omega, by omega, ?_⟩, hl, fun h => by cases h⟩
   by_cases h0 : n = 0
   . exact .inl h0
   . right
     obtain ⟨b, off, spot⟩ := x
     have hc := hcell 0 (by omega)
     have hspot : spot = none := by simpa [Addr.add] using World.cell?_spot hc
     subst hspot
     refine ⟨b, off, rfl, by omega, cell_lt (by simpa [Addr.add] using hc), fun i hi => ?_⟩
     have h1 := hcell i (by omega)
     rw [Addr.add_mid] at h1
     rw [h1]
     have h3 : i < zs.length := by omega
     simp [List.getD, h3, hi]
theorem open_id {cs : List Value} (hf : DataW.trod enc Tryd.prog W 0 (fun _ => true) true fuel 23 cs = some y) : ∃ a b c : Int, cs = [.int .i64 a,.int .i64 b,.int .i64 c] := by
 obtain ⟨xs, k, hk, hxy, hlen, hxl, hfl⟩ := DataW.trod_struct Tryd.underlying23 hf
 rw [cells23] at hlen
 match xs, hxl, cs, hlen with
 | [y0, y1, y2], _, [v0, v1, v2], _ =>
   have g0 := hfl 0 _ rfl
   have g1 := hfl 1 _ rfl
   have g2 := hfl 2 _ rfl
   simp [cells3] at g0 g1 g2
   obtain ⟨z0, rfl0, _, wz0⟩ := DataW.trod_int Tryd.underlying3 g0
   obtain ⟨z1, rfl1, _, wz1⟩ := DataW.trod_int Tryd.underlying3 g1
   obtain ⟨z2, rfl2, _, wz2⟩ := DataW.trod_int Tryd.underlying3 g2
   simp at rfl0 rfl1 rfl2
   subst rfl0 rfl1 rfl2
   exact ⟨z0, z1, z2, rfl⟩
theorem open_pc {cs : List Value} (hf : DataW.trod enc Tryd.prog W 0 (fun _ => true) true fuel 58 cs = some y) (hsz : ∀ n ∈ y.1.weights Tryd.prog 58, n <= reachBytes) : ∃ (a b c d : Int) (s : ByteArray), cs = [.int .i64 a,.int .i64 b,.int .i64 c,.int .i64 d,.string s] /\ s.size <= 281474976710656 := by
 obtain ⟨xs, k, hk, hxy, hlen, hxl, hfl⟩ := DataW.trod_struct Tryd.underlying58 hf
 rw [cells25] at hlen
 match xs, hxl, cs, hlen with
 | [y0, y1, y2], _, [v0, v1, v2, v3, v4], _ =>
   have g0 := hfl 0 _ rfl
   have g1 := hfl 1 _ rfl
   have g2 := hfl 2 _ rfl
   simp [cells3, cells9, cells23] at g0 g1 g2
   obtain ⟨a, b, c, e0⟩ := open_id g0
   obtain ⟨z1, rfl1, _, wz1⟩ := DataW.trod_int Tryd.underlying3 g1
   obtain ⟨s, rfl2, hs⟩ := open_str g2 (fun n hn => hsz n (by
    rw [hxy]
    simp only [DataW.weights, Tryd.underlying58]
    simp [DataW.weightsEach, hn]))
   simp at e0 rfl1
   obtain ⟨rfl, rfl, rfl⟩ := e0
   subst rfl1 rfl2
   exact ⟨a, b, c, z1, s, rfl, hs⟩
theorem open_cmd {cs : List Value} (hf : DataW.trod enc Tryd.prog W 0 (fun _ => true) true fuel 60 cs = some y) (hsz : ∀ n ∈ y.1.weights Tryd.prog 60, n <= reachBytes) :
  ∃ x : Cx, cs = encX x /\ (Irow W 0 x.pa x.pn x.cm.ps /\ (x.pa = none -> x.pc = 0)) /\ x.cm.bu.size <= 281474976710656 /\ x.cm.ke.size <= 281474976710656 /\ x.cm.et.size <= 281474976710656 := by
 obtain ⟨xs, k, hk, hxy, hlen, hxl, hfl⟩ := DataW.trod_struct Tryd.underlying60 hf
 rw [cells28] at hlen
 match xs, hxl, cs, hlen with
 | [y0, y1, y2, y3, y4, y5, y6, y7, y8, y9], _, [v0, v1, v2, v3, v4, v5, v6, v7, v8, v9, v10, v11, v12, v13, v14, v15, v16, v17], _ =>
   have g0 := hfl 0 _ rfl
   have g1 := hfl 1 _ rfl
   have g2 := hfl 2 _ rfl
   have g3 := hfl 3 _ rfl
   have g4 := hfl 4 _ rfl
   have g5 := hfl 5 _ rfl
   have g6 := hfl 6 _ rfl
   have g7 := hfl 7 _ rfl
   have g8 := hfl 8 _ rfl
   have g9 := hfl 9 _ rfl
   simp [cells3, cells9, cells26, cells23, cells25] at g0 g1 g2 g3 g4 g5 g6 g7 g8 g9
   have wm : ∀ n, n ∈ DataW.weightsEach Tryd.prog [3, 23, 9, 9, 23, 58, 3, 55, 3, 3] [y0.1, y1.1, y2.1, y3.1, y4.1, y5.1, y6.1, y7.1, y8.1, y9.1] -> n <= reachBytes := fun n hn => hsz n (by
    rw [hxy]
    simp only [DataW.weights, Tryd.underlying60]
    exact hn)
   obtain ⟨z0, rfl0, _, _⟩ := DataW.trod_int Tryd.underlying3 g0
   obtain ⟨i0, i1, i2, e1⟩ := open_id g1
   obtain ⟨s2, rfl2, hs2⟩ := open_str g2 (fun n hn => wm n (DataW.weights_mem_each (j := 2) (t := 9) (d := y2.1) rfl rfl n hn))
   obtain ⟨s3, rfl3, hs3⟩ := open_str g3 (fun n hn => wm n (DataW.weights_mem_each (j := 3) (t := 9) (d := y3.1) rfl rfl n hn))
   obtain ⟨u0, u1, u2, e4⟩ := open_id g4
   obtain ⟨p0, p1, p2, p3, s5, e5, hs5⟩ := open_pc g5 (fun n hn => wm n (DataW.weights_mem_each (j := 5) (t := 58) (d := y5.1) rfl rfl n hn))
   obtain ⟨z6, rfl6, _, _⟩ := DataW.trod_int Tryd.underlying3 g6
   obtain ⟨a, n, c, l, rfl7, hI, _, hz⟩ := open_il g7 (fun n hn => wm n (DataW.weights_mem_each (j := 7) (t := 55) (d := y7.1) rfl rfl n hn))
   obtain ⟨z8, rfl8, _, _⟩ := DataW.trod_int Tryd.underlying3 g8
   obtain ⟨z9, rfl9, _, _⟩ := DataW.trod_int Tryd.underlying3 g9
   simp at rfl0 e1 e4 e5 rfl6 rfl8 rfl9
   obtain ⟨rfl, rfl, rfl⟩ := e1
   obtain ⟨rfl, rfl, rfl⟩ := e4
   obtain ⟨rfl, rfl, rfl, rfl, rfl⟩ := e5
   subst rfl0 rfl2 rfl3 rfl6 rfl7 rfl8 rfl9
   exact ⟨⟨⟨z0, i0, i1, i2, s2, s3, u0, u1, u2, p0, p1, p2, p3, s5, z6, l, z8, z9⟩, a, n, c⟩, rfl, ⟨hI, hz⟩, hs2, hs3, hs5⟩
theorem flat_range {b off : Nat} {X : List Cx} (h : ∀ i (hi : i < X.length), W.rangeAt b (off + i * 18) (encX X[i])) : W.rangeAt b off (flat X) := by
 intro j v hv
 have hj := (List.getElem?_eq_some_iff.1 hv).1
 rw [flat_len] at hj
 have hi : j / 18 < X.length := by omega
 have e : j = j / 18 * 18 + j % 18 := by omega
 have h1 := flat_at X hi (j := j % 18) (by omega)
 rw [<- e, hv] at h1
 have h2 := h (j / 18) hi (j % 18) v h1.symm
 have e2 : off + j / 18 * 18 + j % 18 = off + j := by omega
 rw [e2] at h2
 exact h2
theorem open_led {v : Value} (hf : DataW.trod enc Tryd.prog W 0 (fun _ => true) true fuel 26 [v] = some y) (hsz : ∀ n ∈ y.1.weights Tryd.prog 26, n <= reachBytes) :
  ∃ a n k X, v = .slice a n k /\ Cms W 0 a n X /\ n <= k /\ (a = none -> k = 0) := by
 rcases open_slice Tryd.underlying26 hf with ⟨hcs, _⟩ | ⟨x, len, cap, m, fu, D, Pl, hcs, _, hl, hm, hmm, hx, hc⟩
 . simp at hcs
   exact ⟨none, 0, 0, [], hcs, Cms.nil _ _ _, by omega, fun _ => rfl⟩
 . simp at hcs
   simp only [if_true] at hmm
   subst hmm
   rw [hx] at hsz
   have hlen8 : len <= 764877654082 := by
    have h := hsz ((((List.range len).map D).length + ((List.range (m - len)).map fun j => D (len + j)).length) * 184) (by
     simp only [DataW.weights, Tryd.underlying26, bytes28]
     simp)
    simp only [List.length_map, List.length_range, reachBytes] at h
    omega
   have each : ∀ i, i < len -> ∃ q : Cx, W.cells? 0 (x.add (i * 18)) 18 = some (encX q) /\ (Irow W 0 q.pa q.pn q.cm.ps /\ (q.pa = none -> q.pc = 0)) /\ q.cm.bu.size <= 281474976710656 /\ q.cm.ke.size <= 281474976710656 /\ q.cm.et.size <= 281474976710656 := by
    intro i hi
    obtain ⟨cs', h1, h2⟩ := hc i (by omega)
    rw [cells28] at h1
    have hmem : D i ∈ (List.range len).map D := List.mem_map.2 ⟨i, List.mem_range.2 hi, rfl⟩
    obtain ⟨q, e, hq⟩ := open_cmd h2 (fun n hn => hsz n (by
     simp only [DataW.weights, Tryd.underlying26]
     exact List.mem_cons_of_mem _ (List.mem_append_left _ (weightsAll_mem hmem _ hn))))
    subst e
    exact ⟨q, h1, hq⟩
   obtain ⟨q, hq⟩ := choose_lt each
   have hX : ∀ i, i < len -> ((List.range len).map q)[i]? = some (q i) := fun i hi => by simp [hi]
   have hmem : ∀ y ∈ (List.range len).map q, ∃ i, i < len /\ y = q i := fun y hy => by
    obtain ⟨i, hi, e⟩ := List.mem_map.1 hy
    exact ⟨i, List.mem_range.1 hi, e.symm⟩
   refine ⟨some x, len, m, (List.range len).map q, hcs, ⟨by simp, hlen8, ?_, fun y hy => ?_, fun y hy => ?_⟩, hl, fun h => by cases h⟩
   . by_cases h0 : len = 0
     . exact .inl h0
     . right
       obtain ⟨b, off, spot⟩ := x
       obtain ⟨_, _, hc0⟩ := World.cells?_some (hq 0 (by omega)).1
       have h10 : W.cell? ((({ block := b, off := off, spot := spot } : Addr).add (0 * 18)).add 0) = some (.int .i64 (q 0).cm.k) := hc0 0 (by omega)
       have hspot : spot = none := by simpa [Addr.add] using World.cell?_spot h10
       subst hspot
       refine ⟨b, off, rfl, by omega, ?_, flat_range (fun i hi => ?_)⟩
       . exact cell_lt (by simpa [Addr.add] using h10)
       . have hi2 : i < len := by simpa using hi
         obtain ⟨_, hln, hci⟩ := World.cells?_some (hq i hi2).1
         intro j v hv
         have hv2 : (encX (q i))[j]? = some v := by simpa using hv
         have hj := (List.getElem?_eq_some_iff.1 hv2).1
         have h := hci j (by rw [encX_len] at hj; omega)
         rw [Addr.add_mid, Addr.add_mid] at h
         rw [h]
         exact hv2
   . obtain ⟨i, hi, rfl⟩ := hmem y hy
     exact (hq i hi).2.1
   . obtain ⟨i, hi, rfl⟩ := hmem y hy
     exact (hq i hi).2.2
end
end Go.Proofs.YtppibcambhmomaaDoor
namespace Go.Proofs.YtppibcambhmomaaDoor
open Go.ChangeShapes Go.WideShapes Go.ChangeAt Go.RowKit
set_option maxRecDepth 20000
set_option linter.unusedVariables false
set_option linter.unusedSimpArgs false
theorem cM25 : Tryd.prog.cellsOf 25 = 2 := by kernel_rfl
theorem cM26 : Tryd.prog.cellsOf 26 = 1 := by kernel_rfl
theorem cM27 : Tryd.prog.cellsOf 27 = 1 := by kernel_rfl
theorem cM4 : Tryd.prog.cellsOf 4 = 1 := by kernel_rfl
theorem cM29 : Tryd.prog.cellsOf 29 = 16 := by kernel_rfl
section
variable {H : Type} {enc : TypeId × Value -> H} {W : World} {fuel : Nat} {y : DataW H × List MemPlace}
theorem open_bal {cs : List Value} (hf : DataW.trod enc Tryd.prog W 0 (fun _ => true) true fuel 25 cs = some y) : ∃ a b : Int, cs = [.int .i64 a,.int .i64 b] := by
 obtain ⟨xs, k, hk, hxy, hlen, hxl, hfl⟩ := DataW.trod_struct Tryd.underlying25 hf
 rw [cM25] at hlen
 match xs, hxl, cs, hlen with
 | [y0, y1], _, [v0, v1], _ =>
   have g0 := hfl 0 _ rfl
   have g1 := hfl 1 _ rfl
   simp [cells3] at g0 g1
   obtain ⟨z0, rfl0, _, wz0⟩ := DataW.trod_int Tryd.underlying3 g0
   obtain ⟨z1, rfl1, _, wz1⟩ := DataW.trod_int Tryd.underlying3 g1
   simp at rfl0 rfl1
   subst rfl0 rfl1
   exact ⟨z0, z1, rfl⟩
theorem open_msg {cs : List Value} (hf : DataW.trod enc Tryd.prog W 0 (fun _ => true) true fuel 29 cs = some y) (hsz : ∀ n ∈ y.1.weights Tryd.prog 29, n <= reachBytes) :
  ∃ (x : Mc) (X : List Cx) (L : List Nat), cs = encM x /\ Ms W x X L /\ x.fc <= 140737488351232 := by
 obtain ⟨xs, k, hk, hxy, hlen, hxl, hfl⟩ := DataW.trod_struct Tryd.underlying29 hf
 rw [cM29] at hlen
 match xs, hxl, cs, hlen with
 | [y0, y1, y2, y3, y4, y5, y6, y7, y8, y9], _, [v0, v1, v2, v3, v4, v5, v6, v7, v8, v9, v10, v11, v12, v13, v14, v15], _ =>
   have g0 := hfl 0 _ rfl
   have g1 := hfl 1 _ rfl
   have g2 := hfl 2 _ rfl
   have g3 := hfl 3 _ rfl
   have g4 := hfl 4 _ rfl
   have g5 := hfl 5 _ rfl
   have g6 := hfl 6 _ rfl
   have g7 := hfl 7 _ rfl
   have g8 := hfl 8 _ rfl
   have g9 := hfl 9 _ rfl
   simp [cells3, cells23, cM25, cM26, cM27, cM4] at g0 g1 g2 g3 g4 g5 g6 g7 g8 g9
   have wm : ∀ n, n ∈ DataW.weightsEach Tryd.prog [3, 3, 3, 23, 25, 25, 26, 23, 4, 27] [y0.1, y1.1, y2.1, y3.1, y4.1, y5.1, y6.1, y7.1, y8.1, y9.1] -> n <= reachBytes := fun n hn => hsz n (by
    rw [hxy]
    simp only [DataW.weights, Tryd.underlying29]
    exact hn)
   obtain ⟨z0, rfl0, _, _⟩ := DataW.trod_int Tryd.underlying3 g0
   obtain ⟨z1, rfl1, _, _⟩ := DataW.trod_int Tryd.underlying3 g1
   obtain ⟨z2, rfl2, _, _⟩ := DataW.trod_int Tryd.underlying3 g2
   obtain ⟨i0, i1, i2, e3⟩ := open_id g3
   obtain ⟨p0, p1, e4⟩ := open_bal g4
   obtain ⟨q0, q1, e5⟩ := open_bal g5
   obtain ⟨la, ln, lc, X, e6, hC, _, hz⟩ := open_led g6 (fun n hn => wm n (DataW.weights_mem_each (j := 6) (t := 26) (d := y6.1) rfl rfl n hn))
   obtain ⟨u0, u1, u2, e7⟩ := open_id g7
   obtain ⟨b, e8, _⟩ := DataW.trod_bool Tryd.underlying4 g8
   obtain ⟨fa, fn, fc, L, e9, hS, hk, hm⟩ := open_bytes g9 (fun n hn => wm n (DataW.weights_mem_each (j := 9) (t := 27) (d := y9.1) rfl rfl n hn))
   simp at rfl0 rfl1 rfl2 e3 e4 e5 e7 e8
   obtain ⟨rfl, rfl, rfl⟩ := e3
   obtain ⟨rfl, rfl⟩ := e4
   obtain ⟨rfl, rfl⟩ := e5
   obtain ⟨rfl, rfl, rfl⟩ := e7
   subst rfl0 rfl1 rfl2 e6 e8 e9
   exact ⟨⟨z0, z1, z2, i0, i1, i2, p0, p1, q0, q1, la, ln, lc, u0, u1, u2, b, fa, fn, fc⟩, X, L, rfl, ⟨hC, hS.out, hz, nil_cap27 g9, hk, hS.out.lt⟩, hm⟩
end
theorem open29 {W : World} {r : Reach} {base : Nat} {v : Value} (h : Value.okWide Tryd.prog W r base 29 v) : ∃ cs : Array Value, v = .agg cs := by
 simp only [Value.okWide, Tryd.underlying29] at h
 obtain ⟨cs, rfl, _⟩ := h
 exact ⟨cs, rfl⟩
end Go.Proofs.YtppibcambhmomaaDoor
