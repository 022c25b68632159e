/- What the document's own Encode does, for all legal numbers and bytes: it makes the same shards. -/
import Derived.Test.YtokkjdgfhpocdaaDoorEx
import Derived.Test.YtokkjdgfhpocdaaDoorMd
namespace Go.Proofs.YtokkjdgfhpocdaaDoor
open Go.ChangeShapes Go.WideShapes Go.ChangeAt Go.RowKit
set_option linter.unusedVariables false
set_option linter.unusedSimpArgs false
set_option linter.unnecessarySimpa false
theorem dsh_at (size : Nat) (data : List Nat) (j b : Nat) (hb : b < size) : (dsh size data j).getD b 0 = data.getD (j * size + b) 0 := by
  unfold dsh
  rw [ext_getD]
  simp only [List.getD]
  rw [List.getElem?_take_of_lt hb, List.getElem?_drop]
def accN (k size x : Nat) (data : List Nat) (b : Nat) (j : Nat) : Nat := Gm.sumOver (fun i => Gm.mul (fac k x i) (data.getD (i * size + b) 0)) (List.range j)
theorem accN_succ (k size x : Nat) (data : List Nat) (b j : Nat) : accN k size x data b (j + 1) = accN k size x data b j ^^^ Gm.mul (fac k x j) (data.getD (j * size + b) 0) := by
  unfold accN
  rw [List.range_succ, sumOver_snoc]
theorem accN_lt (k size x : Nat) (data : List Nat) (b j : Nat) (hx : x < 16) (hj : j ≤ 16) : accN k size x data b j < 256 :=
  Gm.sumOver_lt fun i hi => Gm.mul_lt _ _ (fac_lt k x i hx (by simp at hi; omega))
theorem accN_all (k size x : Nat) (data : List Nat) (b : Nat) (hb : b < size) (hk : k ≤ 16) (hx : x < 16) (hd : ∀ x ∈ data, x < 256) : accN k size x data b k = (shard k size data x).getD b 0 := by
  unfold accN
  by_cases hxk : x < k
  · have es : shard k size data x = dsh size data x := by simp [shard, hxk]
    rw [es, dsh_at _ _ _ _ hb, sumOver_single _ x _ List.nodup_range (by simpa using hxk) (fun y hy hne => by
      have : fac k x y = 0 := by unfold fac; rw [if_neg (fun e => hne e.symm), if_pos hxk]
      rw [this, Gm.zero_mul])]
    have : fac k x x = 1 := by simp [fac]
    rw [this, Gm.one_mul _ (getD_lt hd _)]
  · have es : shard k size data x = parN k x size ((List.range k).map (dsh size data)) k := by simp [shard]; omega
    rw [es, parN_sum k x size _ b hb k]
    apply Gm.sumOver_congr
    intro j hj
    simp at hj
    have : ((List.range k).map (dsh size data)).getD j [] = dsh size data j := by simp [List.getD, hj]
    rw [this, dsh_at _ _ _ _ hb]
/- a row that is filled up to b, with acc at b -/
def rowP (sh : List Nat) (s b acc : Nat) : List Nat := sh.take b ++ acc :: List.replicate (s - (b + 1)) 0
theorem rowP_get {sh : List Nat} {s b acc : Nat} (hl : sh.length = s) (hb : b < s) : (rowP sh s b acc).getD b 0 = acc := by
  unfold rowP
  simp only [List.getD]
  rw [List.getElem?_append_right (by simp; omega)]
  simp [hl, Nat.min_eq_left (Nat.le_of_lt hb)]
theorem rowP_set {sh : List Nat} {s b acc acc' : Nat} (hl : sh.length = s) (hb : b < s) : (rowP sh s b acc).set b acc' = rowP sh s b acc' := by
  unfold rowP
  have h : (sh.take b).length = b := by simp; omega
  rw [List.set_append_right _ _ (by omega), h, Nat.sub_self, List.set_cons_zero]
theorem rowP_len {sh : List Nat} {s b acc : Nat} (hl : sh.length = s) (hb : b < s) : (rowP sh s b acc).length = s := by unfold rowP; simp; omega
theorem rowP_start {sh : List Nat} {s b : Nat} (hb : b < s) : sh.take b ++ List.replicate (s - b) 0 = rowP sh s b 0 := by
  unfold rowP
  have : s - b = (s - (b + 1)) + 1 := by omega
  rw [this, List.replicate_succ]
theorem rowP_end {sh : List Nat} {s b : Nat} (hl : sh.length = s) (hb : b < s) : rowP sh s b (sh.getD b 0) = sh.take (b + 1) ++ List.replicate (s - (b + 1)) 0 := by
  unfold rowP
  rw [take_succ_getD (by omega)]
  simp
set_option maxRecDepth 40000 in
set_option maxHeartbeats 4000000 in
theorem refencode_ok (k m n c : Nat) (a : Option Addr) (data : List Nat) (w : World) (h1 : 1 ≤ m) (h2 : m ≤ k) (h3 : k + m ≤ 16) (hn : n ≤ 1024) (S : Hid (Sln w a n data)) :
    Calls Tryd.prog 17 #[.int .i64 (k : Int), .int .i64 (m : Int), .slice a n c] w fun e w' => ∃ g bs cap, e = .returned (.tuple #[.slice (some ⟨g, 0, none⟩) (k + m) cap, .int .i64 (0 : Int)]) ∧ Hid (Enc w w' g cap k m bs data) := by
  have hs := sz_le k n (by omega) (by omega) hn
  obtain ⟨s, Hs⟩ : ∃ s, Hid (sz k n = s) := ⟨_, rfl⟩
  have RS : Hid (∀ w, Calls Tryd.prog 13 #[.int .i64 (k : Int), .int .i64 (m : Int), .int .i64 (n : Int)] w fun e w' => e = .returned (.tuple #[.int .i64 (s : Int), .int .i64 (0 : Int)]) ∧ w' = w) := by
    intro w
    have h := refsize_ok k m n h1 h2 h3 hn w
    rw [Hs.out] at h
    exact h
  rw [Hs.out] at hs
  have HDL : Hid (sz k data.length = s) := by rw [← S.out.len]; exact Hs.out
  have mk := make_bytes s (by omega)
  go_enter Tryd.func17, Tryd.ntmps17
  go_wp2_with (go_at_call 13; refine (RS.out _).mono ?_; rintro e w0 ⟨rfl, h0⟩; rw [h0]; clear h0)
  go_loopw [11, 10] (fun ti tv wr => ∃ i g cap : Nat, i ≤ k + m ∧ ti = .int .i64 (i : Int) ∧ tv = .slice (some ⟨g, 0, none⟩) i cap ∧ Hid (∃ bs : List Nat, wr.ownsRow w.heap.size 33 1 (.slice (some ⟨g, 0, none⟩) i cap) i (bs.map (sv s)) ∧ Shs wr bs s ((List.range i).map (shard k s data)) ∧ (∀ b ∈ bs, w.heap.size ≤ b) ∧ Below w.heap.size w wr)) (fun ti _ _ => k + m - (intOf ti).toNat)
  case atStart =>
    refine ⟨0, w.heap.size, 0, by omega, rfl, rfl, [], ?_, Shs.nil _ _, by simp, (Below.refl _ _).alloc (Nat.le_refl _) _⟩
    refine ⟨rfl, .inr ⟨_, 0, #[], rfl, Nat.le_refl _, ?_, Nat.le_refl _, by unfold maxLen; omega, rfl, rfl⟩⟩
    show (w.heap.push _)[w.heap.size]? = _
    simp
  case round =>
    obtain ⟨i, g, cap, hi, rfl, rfl, HI⟩ := hrel
    by_cases hlt : i < k + m
    · obtain ⟨bs, own, shs, new, bel⟩ := HI.out
      obtain ⟨sh, Hsh⟩ : ∃ sh, Hid (shard k s data i = sh) := ⟨_, rfl⟩
      have hll : sh.length = s := by rw [← Hsh.out]; exact shard_length _ _ _ _
      have HLL : Hid (sh.length = s) := hll
      have i16 : i < 16 := by omega
      have SHL : Hid (∀ x ∈ sh, x < 256) := by rw [← Hsh.out]; exact shard_lt S.out.lt i i16 (by omega)
      have ACC : Hid (∀ b, b < s → accN k s i data b k = sh.getD b 0) := fun b hb => by rw [← Hsh.out]; exact accN_all k s i data b hb (by omega) i16 S.out.lt
      have i1 : (i : Int) < (k : Int) + (m : Int) := by omega
      obtain ⟨q, Hq⟩ : ∃ q, Hid (wr.heap.size = q) := ⟨_, rfl⟩
      obtain ⟨w3, hw3⟩ : ∃ w3, w3 = wr.alloc (.cells (madeCells #[.int .u8 0] s) 5) := ⟨_, rfl⟩
      have B3 : Hid (Blk w3 q (sh.take 0 ++ List.replicate (s - 0) 0)) := by
        have h := Blk.made wr s
        rw [← hw3, Hq.out] at h
        exact h
      have L3 : Hid (Below q wr w3) := by rw [hw3, ← Hq.out]; exact (Below.refl _ _).alloc (Nat.le_refl _) _
      have OWN : Hid (wr.ownsRow w.heap.size 33 1 (.slice (some ⟨g, 0, none⟩) i cap) i (bs.map (sv s)) ∧ Shs wr bs s ((List.range i).map (shard k s data)) ∧ (∀ b ∈ bs, w.heap.size ≤ b) ∧ Below w.heap.size w wr) := ⟨own, shs, new, bel⟩
      have S3 : Hid (Sln w3 a n data) := (S.out.below bel).below (by rw [Hq.out]; exact L3.out)
      have SQ : Hid (∀ b off, data ≠ [] → a = some ⟨b, off, none⟩ → b ≠ q) := by
        intro b off hne ha
        obtain ⟨b', off', h5, h6, _⟩ := (S.out.below bel).sli.2.2.resolve_left hne
        rw [h5] at ha
        simp at ha
        have := Hq.out
        omega
      have FS : Hid (∀ wx, Blk wx q sh → Oth q w3 wx → ∃ g' cap' w', (Builtin.append_ #[35, 35] 35 #[.slice (some ⟨g, 0, none⟩) i cap, .slice (some ⟨wx.heap.size, 0, none⟩) 1 1]).run Tryd.prog (wx.alloc (.cells #[.slice (some ⟨q, 0, none⟩) s s] 33)) = .ok (.slice (some ⟨g', 0, none⟩) (i + 1) cap') w' ∧ ∃ bs : List Nat, w'.ownsRow w.heap.size 33 1 (.slice (some ⟨g', 0, none⟩) (i + 1) cap') (i + 1) (bs.map (sv s)) ∧ Shs w' bs s ((List.range (i + 1)).map (shard k s data)) ∧ (∀ b ∈ bs, w.heap.size ≤ b) ∧ Below w.heap.size w w') := by
        intro wx hbx hox
        have bx : Below wr.heap.size wr wx := by rw [Hq.out]; exact hox.below L3.out (Nat.le_refl _)
        have hz := OWN.out.2.2.2.size
        have hz2 := bx.size
        have own2 := own_below OWN.out.1 bx
        obtain ⟨g3, cap3, w9, ap, own3, gr⟩ := app_row wx w.heap.size g i cap s q bs own2 (by omega) (by omega)
        have nb : q ∉ bs := fun hm => by have := OWN.out.2.1.mem hm; have := Hq.out; omega
        have s2 := (OWN.out.2.1.below bx).snoc hbx HLL.out SHL.out nb
        have s3 := s2.below ((Below.refl wx.heap.size wx).alloc (Nat.le_refl _) (.cells #[sv s q] 33))
        have ni := own_notin (own2.alloc (.cells #[sv s q] 33)) s3
        refine ⟨g3, cap3, w9, ap, bs ++ [q], own3, ?_, ?_, ?_⟩
        · have h := grown_shs s3 gr ni
          rw [List.range_succ, List.map_append]
          simp only [List.map_cons, List.map_nil]
          rw [Hsh.out]
          exact h
        · intro x hx
          rcases List.mem_append.1 hx with h | h
          · exact OWN.out.2.2.1 x h
          · simp at h; have := Hq.out; omega
        · have hg := (own2.lt g rfl).1
          have hb2 : Below w.heap.size w wx := OWN.out.2.2.2.trans (bx.mono hz)
          exact (hb2.alloc hb2.size _).grown gr (hb2.alloc hb2.size _).size (fun k e => by simp at e; omega)
      clear HI own shs new bel hll
      go_upto_region 9 with (fail)
      rw [← hw3, Hq.out]
      clear hw3
      go_wp2
      go_loopw [38] (fun tb wx => ∃ b : Nat, b ≤ s ∧ tb = .int .i64 (b : Int) ∧ Hid (Blk wx q (sh.take b ++ List.replicate (s - b) 0) ∧ Oth q w3 wx)) (fun tb _ => s - (intOf tb).toNat)
      case atStart => exact ⟨0, by omega, rfl, B3.out, Oth.refl _ _⟩
      case round =>
        obtain ⟨b, hb, rfl, HB⟩ := hrel
        by_cases hbl : b < s
        · have ib : (b : Int) < (s : Int) := by omega
          have ST : Hid (Blk wr q (rowP sh s b (accN k s i data b 0)) ∧ Oth q w3 wr) := by
            have e : accN k s i data b 0 = 0 := rfl
            rw [e, ← rowP_start hbl]
            exact HB.out
          clear HB
          go_wp2
          go_loopw [14] (fun tj wx => ∃ j : Nat, j ≤ k ∧ tj = .int .i64 (j : Int) ∧ Hid (Blk wx q (rowP sh s b (accN k s i data b j)) ∧ Oth q w3 wx)) (fun tj _ => k - (intOf tj).toNat)
          case atStart => exact ⟨0, by omega, rfl, ST.out⟩
          case round =>
            obtain ⟨j, hj, rfl, HJ⟩ := hrel
            clear ST
            by_cases hjl : j < k
            · have ij : (j : Int) < (k : Int) := by omega
              obtain ⟨x, Hx⟩ : ∃ x, Hid (accN k s i data b j = x) := ⟨_, rfl⟩
              have hx : x < 256 := by rw [← Hx.out]; exact accN_lt k s i data b j i16 (by omega)
              have cx : wr.cell? ⟨q, b, none⟩ = some (.int .u8 (x : Int)) := by
                have h := HJ.out.1.cell (i := b) (by rw [rowP_len HLL.out hbl]; exact hbl)
                rw [rowP_get HLL.out hbl, Hx.out] at h
                exact h
              have fx := HJ.out.1.frozen b
              have SW : Hid (Sln wr.drew a n data) := by
                have h := S3.out
                refine ⟨h.len, h.sli.1, h.sli.2.1, ?_⟩
                rcases h.sli.2.2 with h0 | ⟨bd, od, h5, h6, h7⟩
                · exact .inl h0
                · by_cases hne : data = []
                  · exact .inl hne
                  · exact .inr ⟨bd, od, h5, by have := HJ.out.2.size; show bd < wr.heap.size; rw [this]; exact h6, fun t ht => (HJ.out.2.cell (p := ⟨bd, od + t, none⟩) (SQ.out bd od hne h5)).trans (h7 t ht)⟩
              have hf := fac_lt k i j i16 (by omega)
              obtain ⟨y, Hy⟩ : ∃ y, Hid (data.getD (j * s + b) 0 = y) := ⟨_, rfl⟩
              have hy : y < 256 := by rw [← Hy.out]; exact getD_lt S3.out.lt _
              have AT : Hid (∀ w', w' = wr.drew → Calls Tryd.prog 31 #[.slice a n c, .int .i64 (s : Int), .int .i64 (j : Int), .int .i64 (b : Int)] w' fun e w'' => e = .returned (.int .u8 (y : Int)) ∧ w'' = w') := by
                intro w' hw'
                have h := at_any n c s j b a data w' (by omega) (by omega) (by omega) hn (by rw [hw']; exact SW)
                rw [Hy.out] at h
                exact h
              have hmu := Gm.mul_lt (fac k i j) y hf
              have FIN : Hid (Blk (wr.setCell ⟨q, b, none⟩ (.int .u8 ((x ^^^ Gm.mul (fac k i j) y : Nat) : Int))) q (rowP sh s b (accN k s i data b (j + 1))) ∧ Oth q w3 (wr.setCell ⟨q, b, none⟩ (.int .u8 ((x ^^^ Gm.mul (fac k i j) y : Nat) : Int)))) := by
                refine ⟨?_, HJ.out.2.setCell b _⟩
                rw [accN_succ, Hx.out, Hy.out, ← rowP_set (acc := accN k s i data b j) HLL.out hbl]
                exact HJ.out.1.set b _
              rw [← u8_xor_nat x (Gm.mul (fac k i j) y) hx hmu] at FIN
              clear HJ SW
              go_wp2
              go_still_tail 16, (by kernel_rfl)
              still_call (reffactor_any k i j (by omega) i16 hjl _)
              repeat still_step
              still_call (AT.out _ rfl)
              repeat still_step
              still_call (refmul_any (fac k i j) y hf hy _)
              repeat still_step
              refine wpStill_nil ?_
              go_wp2
              go_roundw
              case rel => exact ⟨j + 1, by omega, by go_num, FIN.out.1, FIN.out.2.drewN 1⟩
              case measure => simp [intOf]; omega
            · have e : j = k := by omega
              have FIN : Hid (Blk wr q (sh.take (b + 1) ++ List.replicate (s - (b + 1)) 0) ∧ Oth q w3 wr) := by
                have h := HJ.out
                rw [e, ACC.out b hbl, rowP_end HLL.out hbl] at h
                exact h
              clear HJ
              subst e
              go_wp2
              go_roundw
              case rel => exact ⟨b + 1, by omega, by go_num, FIN.out⟩
              case measure => simp [intOf]; omega
        · have e : b = s := by omega
          have BF : Hid (Blk wr q sh ∧ Oth q w3 wr) := by
            have h := HB.out
            rw [e, Nat.sub_self, List.take_of_length_le (by rw [HLL.out]; exact Nat.le_refl _)] at h
            simp only [List.replicate_zero, List.append_nil] at h
            exact h
          obtain ⟨g', cap', w', ap, fin⟩ := FS.out wr BF.out.1 BF.out.2
          have AP : Hid _ := ap
          have FIN : Hid (∃ bs : List Nat, w'.ownsRow w.heap.size 33 1 (.slice (some ⟨g', 0, none⟩) (i + 1) cap') (i + 1) (bs.map (sv s)) ∧ Shs w' bs s ((List.range (i + 1)).map (shard k s data)) ∧ (∀ b ∈ bs, w.heap.size ≤ b) ∧ Below w.heap.size w w') := fin
          clear ap fin BF HB FS
          subst e
          go_wp2_with (at_builtin; refine wpList_app35 (by rfl) (.tmp 63) (.tmp 65) (by rfl) (by rfl) (by rfl) (by rfl) AP ?_)
          go_roundw
          case rel => exact ⟨i + 1, g', cap', by omega, by go_num, rfl, FIN.out⟩
          case measure => simp [intOf]; omega
    · have e : i = k + m := by omega
      have FIN : Hid (∃ bs, Enc w wr g cap k m bs data) := by
        obtain ⟨bs2, own, shs, new, bel⟩ := HI.out
        subst e
        refine ⟨bs2, by rw [HDL.out]; exact own, ?_, new, bel⟩
        unfold shards
        rw [HDL.out]
        exact shs
      clear HI
      subst e
      go_wp2
      go_ret2
      obtain ⟨bs2, hE⟩ := FIN.out
      exact ⟨g, bs2, cap, rfl, hE⟩
end Go.Proofs.YtokkjdgfhpocdaaDoor
