import Derived.Test.YtfabnnbljkkihaaGreatDoorMxp
import Derived.Shelf.Strconv.Itoa3
import Derived.Ground.NamesProg
import Derived.Test.YtfabnnbljkkihaaGreatDoorProg
import Derived.Test.YtfabnnbljkkihaaGreatDoorMx08
import Derived.Lib.AppendIntMem
namespace Go.Proofs
open Go.Shelf
def Tryz.itoa129_ren : Go.Shelf.Ren := ⟨fun | 171 => 129 | 243 => 150 | 246 => 159 | 283 => 166 | 284 => 167 | 285 => 168 | 286 => 169 | 129 => 172 | 317 => 171 | 318 => 173 | 319 => 174 | 320 => 175 | 337 => 176 | 338 => 177 | n => n, fun | 3 => 3 | 9 => 9 | 2 => 2 | 4 => 4 | 171 => 204 | 0 => 0 | 53 => 198 | 37 => 165 | 5 => 5 | 173 => 207 | 212 => 212 | 51 => 183 | 20 => 20 | 213 => 213 | 46 => 152 | 232 => 166 | 233 => 187 | n => n, fun | 17 => 20 | 18 => 21 | 19 => 22 | n => n⟩
theorem Tryz.itoa129 : Go.Proofs.LaysM.n171 Tryz.prog Tryz.itoa129_ren := {
 mixed := by kernel_rfl
 f129 := Tryz.func172.trans (congrArg some (by kernel_rfl))
 f171 := Tryz.func129.trans (congrArg some (by kernel_rfl))
 f243 := Tryz.func150.trans (congrArg some (by kernel_rfl))
 f246 := Tryz.func159.trans (congrArg some (by kernel_rfl))
 f283 := Tryz.func166.trans (congrArg some (by kernel_rfl))
 f284 := Tryz.func167.trans (congrArg some (by kernel_rfl))
 f285 := Tryz.func168.trans (congrArg some (by kernel_rfl))
 f286 := Tryz.func169.trans (congrArg some (by kernel_rfl))
 f317 := Tryz.func171.trans (congrArg some (by kernel_rfl))
 f318 := Tryz.func173.trans (congrArg some (by kernel_rfl))
 f319 := Tryz.func174.trans (congrArg some (by kernel_rfl))
 f320 := Tryz.func175.trans (congrArg some (by kernel_rfl))
 f337 := Tryz.func176.trans (congrArg some (by kernel_rfl))
 f338 := Tryz.func177.trans (congrArg some (by kernel_rfl))
 t0 := Tryz.underlying0
 a0 := Tryz.isAgg0
 z0 := Tryz.sizeOf0
 v0 := Tryz.zeroValue0
 t2 := Tryz.underlying2
 a2 := Tryz.isAgg2
 z2 := Tryz.sizeOf2
 v2 := Tryz.zeroValue2
 t3 := Tryz.underlying3
 a3 := Tryz.isAgg3
 z3 := Tryz.sizeOf3
 v3 := Tryz.zeroValue3
 t4 := Tryz.underlying4
 a4 := Tryz.isAgg4
 z4 := Tryz.sizeOf4
 v4 := Tryz.zeroValue4
 t5 := Tryz.underlying5
 a5 := Tryz.isAgg5
 z5 := Tryz.sizeOf5
 v5 := Tryz.zeroValue5
 t9 := Tryz.underlying9
 a9 := Tryz.isAgg9
 z9 := Tryz.sizeOf9
 v9 := Tryz.zeroValue9
 t20 := Tryz.underlying20
 a20 := Tryz.isAgg20
 z20 := Tryz.sizeOf20
 v20 := Tryz.zeroValue20
 t37 := Tryz.underlying165
 a37 := Tryz.isAgg165
 z37 := Tryz.sizeOf165
 v37 := Tryz.zeroValue165
 t46 := Tryz.underlying152
 a46 := Tryz.isAgg152
 z46 := Tryz.sizeOf152
 v46 := Tryz.zeroValue152
 t51 := Tryz.underlying183
 a51 := Tryz.isAgg183
 z51 := Tryz.sizeOf183
 v51 := Tryz.zeroValue183
 t53 := Tryz.underlying198
 a53 := Tryz.isAgg198
 z53 := Tryz.sizeOf198
 v53 := Tryz.zeroValue198
 t171 := Tryz.underlying204
 a171 := Tryz.isAgg204
 z171 := Tryz.sizeOf204
 v171 := Tryz.zeroValue204
 t173 := Tryz.underlying207
 a173 := Tryz.isAgg207
 z173 := Tryz.sizeOf207
 v173 := Tryz.zeroValue207
 t212 := Tryz.underlying212
 a212 := Tryz.isAgg212
 z212 := Tryz.sizeOf212
 v212 := Tryz.zeroValue212
 t213 := Tryz.underlying213
 a213 := Tryz.isAgg213
 z213 := Tryz.sizeOf213
 t232 := Tryz.underlying166
 a232 := Tryz.isAgg166
 z232 := Tryz.sizeOf166
 v232 := Tryz.zeroValue166
 t233 := Tryz.underlying187
 a233 := Tryz.isAgg187
 z233 := Tryz.sizeOf187
 v233 := Tryz.zeroValue187
 g17 := by kernel_rfl
 g18 := by kernel_rfl
 g19 := by kernel_rfl
 i0 := by kernel_rfl
 i2 := by kernel_rfl
 i3 := by kernel_rfl
 i4 := by kernel_rfl
 i5 := by kernel_rfl
 i9 := by kernel_rfl
 i20 := by kernel_rfl
 i37 := by kernel_rfl
 i46 := by kernel_rfl
 i51 := by kernel_rfl
 i53 := by kernel_rfl
 i171 := by kernel_rfl
 i173 := by kernel_rfl
 i212 := by kernel_rfl
 i232 := by kernel_rfl
 i233 := by kernel_rfl
 m17 := by kernel_rfl
 m18 := by kernel_rfl
 m19 := by kernel_rfl }
end Go.Proofs
namespace Go.Proofs.YtfabnnbljkkihaaGreatDoor.Sh
open Go.ChangeShapes Go.WideShapes Go.ChangeAt Go.RowKit
set_option maxRecDepth 20000
set_option linter.unusedVariables false
set_option linter.unusedSimpArgs false
theorem spell_go (l : List Nat) : ∀ r : ByteArray, ((l.map fun x : Nat => (x : Int)).foldl (fun r n => r.push (UInt8.ofNat n.toNat)) r).data.toList = r.data.toList ++ l.map UInt8.ofNat := by
 induction l with
 | nil => intro r; simp
 | cons x l ih =>
   intro r
   simp only [List.map_cons, List.foldl_cons]
   rw [ih]
   simp [ByteArray.push]
theorem spell_data (l : List Nat) : (spell l).data.toList = l.map UInt8.ofNat := by
 have h := spell_go l ByteArray.empty
 have e : ByteArray.empty.data.toList = [] := rfl
 rw [e, List.nil_append] at h
 exact h
theorem spell_size (l : List Nat) : (spell l).size = l.length := by
 have h := congrArg List.length (spell_data l)
 simp at h
 exact h
def bytesOf (s : ByteArray) : List Nat := s.data.toList.map UInt8.toNat
theorem bytesOf_length (s : ByteArray) : (bytesOf s).length = s.size := by
 unfold bytesOf
 rw [List.length_map, Array.length_toList]
 rfl
theorem bytesOf_lt (s : ByteArray) : ∀ x ∈ bytesOf s, x < 256 := by
 intro x hx
 obtain ⟨b, _, rfl⟩ := List.mem_map.1 hx
 exact b.toNat_lt
def cvC (X : World) (s : ByteArray) : Nat := grownCap X s.size 0 5
def cvW (X : World) (s : ByteArray) : World := X.drew.alloc (.cells (bytesRow s (cvC X s)) 5 ((bytesRow s (cvC X s)).size, (bytesRow s (cvC X s)).size + 1))
theorem run_cv (X : World) (s : ByteArray) : (convert 9 165 (.string s)).run Tryz.prog X = .ok (.slice (some ⟨X.heap.size, 0, none⟩) s.size (cvC X s)) (cvW X s) := run_bytes_of_string X 9 165 5 s Tryz.underlying9 Tryz.underlying165 Tryz.underlying5
theorem cvC_ge (X : World) (s : ByteArray) : s.size <= cvC X s := grownCap_ge X s.size 0 5
theorem cvW_below (X : World) (s : ByteArray) : Below X.heap.size X (cvW X s) := by
 have h1 : Below X.heap.size X X.drew := below_drewN (Below.refl _ _) 1
 exact h1.alloc (Nat.le_refl _) _
theorem cvW_sln (X : World) (s : ByteArray) (h : s.size <= 140737488352256) : Sln (cvW X s) (some ⟨X.heap.size, 0, none⟩) s.size (bytesOf s) := by
 refine ⟨(bytesOf_length s).symm, bytesOf_lt s, by rw [bytesOf_length]; exact h, .inr ⟨X.heap.size, 0, rfl, by simp [cvW], fun i hi => ?_⟩⟩
 have hi2 : i < s.data.size := by rw [bytesOf_length] at hi; exact hi
 have hb : (cvW X s).heap[X.heap.size]? = some (.cells (bytesRow s (cvC X s)) 5 ((bytesRow s (cvC X s)).size, (bytesRow s (cvC X s)).size + 1)) := heap_alloc_new X.drew _
 have hr := bytesRow_at s (cvC X s) i hi2
 rw [Nat.zero_add]
 unfold World.cell?
 rw [hb]
 have e : (bytesOf s).getD i 0 = (s.data[i]).toNat := by
  have h3 : i < s.data.toList.length := by simpa using hi2
  simp [bytesOf, List.getD]
  rw [Array.getElem?_eq_getElem hi2]
  rfl
 rw [e]
 simp [hr]
theorem arr_sln {t : TypeId} {w : World} {g : Nat} {d : List Nat} (h : Arr .u8 t w g d) (hd : ∀ x ∈ d, x < 256) (n : Nat) (hn : n <= d.length) (hm : n <= 140737488352256) : Sln w (some ⟨g, 0, none⟩) n (d.take n) := by
 refine ⟨by simp; omega, fun x hx => hd x (List.mem_of_mem_take hx), by simp; omega, .inr ⟨g, 0, rfl, h.lt, fun i hi => ?_⟩⟩
 have hi2 : i < n := by simp at hi; omega
 rw [Nat.zero_add, h.cell (by omega)]
 have : (d.take n).getD i 0 = d.getD i 0 := by simp [List.getD, hi2]
 rw [this]
theorem sum_lt (l : List Nat) : ∀ x ∈ Gs.sum l, x < 256 := by
 have h : ∀ s n, ∀ x ∈ Gs.digestN s n, x < 256 := by
  intro s n
  induction n with
  | zero => simp [Gs.digestN]
  | succ n ih =>
    intro x hx
    rcases List.mem_append.1 hx with h1 | h1
    . exact ih x h1
    . simp only [Gs.bytesW, List.mem_cons, List.not_mem_nil, or_false] at h1
      rcases h1 with h1 | h1 | h1 | h1 <;> (rw [h1]; exact Nat.mod_lt _ (by decide))
 unfold Gs.sum
 split <;> exact h _ 8
theorem sum_length (l : List Nat) : (Gs.sum l).length = 32 := by unfold Gs.sum; split <;> exact digest_length _
def Tab (w : World) : Prop := Lib.TabIs Tryz.prog w "internal/strconv.uint64pow10" .u64 Lib.pow10Tab
theorem tab_g : Tryz.prog.globalNamed "internal/strconv.uint64pow10" = some 20 := by kernel_rfl
theorem Tab.lt {w : World} (h : Tab w) : 20 < w.heap.size := by
 unfold Tab Lib.TabIs World.var? at h
 rw [tab_g] at h
 simp only [Option.bind_some] at h
 rcases Nat.lt_or_ge 20 w.heap.size with h' | h'
 . exact h'
 . rw [Array.getElem?_eq_none h'] at h; cases h
theorem Tab.keep {w w' : World} (h : Tab w) (e : w'.heap[20]? = w.heap[20]?) : Tab w' := by
 unfold Tab Lib.TabIs World.var? at h ⊢
 rw [tab_g] at h ⊢
 simp only [Option.bind_some] at h ⊢
 rw [e]
 exact h
theorem Tab.below {w w' : World} (h : Tab w) (hb : Below w.heap.size w w') : Tab w' := h.keep (hb.block 20 h.lt)
def itS (n : Int) : ByteArray := ⟨(Lib.itoa n).toArray⟩
theorem itoa_n (n : Int) (h0 : -9223372036854775808 <= n) (h1 : n <= 9223372036854775807) {w : World} (ht : Hid (Tab w)) :
  Calls Tryz.prog 129 #[.int .i64 n] w fun e w' => e = .returned (.string (itS n)) /\ Hid (Below w.heap.size w w' /\ Tab w') := by
 refine (Any.strconv_Itoa Tryz.itoa129 n h0 h1 w ht.out).mono ?_
 rintro e w' ⟨rfl, k, os, rfl⟩
 have hb := Lib.below_grow w.heap.size w (Nat.le_refl _) k os
 exact ⟨rfl, hb, ht.out.below hb⟩
theorem dec_len (u : Nat) (k : Nat) (h : u < 10 ^ k) (hk : 1 <= k) : (Lib.decDigits u).length <= k := by
 induction k generalizing u with
 | zero => omega
 | succ k ih =>
   rw [Lib.decDigits]
   split
   . simp
   . rename_i h9
     rw [List.length_append]
     rcases Nat.eq_zero_or_pos k with rfl | hp
     . omega
     . have := ih (u / 10) (by rw [Nat.pow_succ] at h; omega) hp
       simp; omega
theorem itoa_len (n : Int) (h0 : -9223372036854775808 <= n) (h1 : n <= 9223372036854775807) : (Lib.itoa n).length <= 20 := by
 unfold Lib.itoa
 split
 . have := dec_len n.natAbs 19 (by omega) (by omega)
   simp; omega
 . have := dec_len n.toNat 19 (by omega) (by omega)
   omega
theorem itS_size (n : Int) (h0 : -9223372036854775808 <= n) (h1 : n <= 9223372036854775807) : (itS n).size <= 20 := by
 have h := itoa_len n h0 h1
 simpa [itS, ByteArray.size] using h
end Go.Proofs.YtfabnnbljkkihaaGreatDoor.Sh
