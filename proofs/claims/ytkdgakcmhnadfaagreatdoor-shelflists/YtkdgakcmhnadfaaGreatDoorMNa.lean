import Derived.Test.YtkdgakcmhnadfaaGreatDoorMKd
import Derived.Lib.Split
import Derived.Lib.Atoi
import Derived.Shelf.Strings.Split
import Derived.Shelf.Strconv.Atoi
import Derived.Shelf.SlSortCmp.WholeK
import Derived.Ground.NamesProg
import Derived.Ground.SlsfProg
import Derived.Test.YtkdgakcmhnadfaaGreatDoorProg
import Derived.Test.YtkdgakcmhnadfaaGreatDoorMKc
import Derived.Lib.AtoiErrMem
/- Na -/
/- A file's name cut at its dashes, and its numbers read back. -/
namespace Go.Proofs.YtkdgakcmhnadfaaGreatDoor
open Go.ChangeShapes Go.WideShapes Go.ChangeAt Go.RowKit
set_option maxRecDepth 20000
set_option linter.unusedVariables false
set_option linter.unusedSimpArgs false
theorem ix_miss {x : List UInt8} (h : ∀ z ∈ x, z ≠ 45) : Lib.index x [45] = -1 := by
  induction x with
  | nil => rfl
  | cons b l ih =>
    have hb := h b (by simp)
    have hp : ([45] : List UInt8).isPrefixOf (b :: l) = false := by
      simp [List.isPrefixOf]
      exact fun e => hb e.symm
    unfold Lib.index
    rw [hp, ih (fun z hz => h z (by simp [hz]))]
    rfl
theorem ix_hit {x : List UInt8} (r : List UInt8) (h : ∀ z ∈ x, z ≠ 45) : Lib.index (x ++ 45 :: r) [45] = (x.length : Int) := by
  induction x with
  | nil => simp [Lib.index, List.isPrefixOf]
  | cons b l ih =>
    have hb := h b (by simp)
    have hp : ([45] : List UInt8).isPrefixOf (b :: (l ++ 45 :: r)) = false := by
      simp [List.isPrefixOf]
      exact fun e => hb e.symm
    have e := ih (fun z hz => h z (by simp [hz]))
    show Lib.index (b :: (l ++ 45 :: r)) [45] = _
    unfold Lib.index
    have hn : (((l.length : Int)) == -1) = false := by simp
    rw [hp, e, hn]
    simp
theorem sp_hit {x : List UInt8} (r : List UInt8) (h : ∀ z ∈ x, z ≠ 45) (k : Nat) : Lib.splitK [45] 0 (k + 1) (x ++ 45 :: r) = x :: Lib.splitK [45] 0 k r := by
  have hn : (((x.length : Int)) == -1) = false := by simp
  rw [Lib.splitK, ix_hit r h, hn]
  simp
theorem ct_hit {x : List UInt8} (r : List UInt8) (h : ∀ z ∈ x, z ≠ 45) : Lib.count (x ++ 45 :: r) [45] = 1 + Lib.count r [45] := by
  rw [Lib.count_hit (i := x.length) (by simp) (ix_hit r h)]
  simp
theorem nm_count {a b c : Int} (h : gdI a b c) : Lib.count (nmL [98] a b c) [45] = 3 := by
  have g := gdI_b h
  have e : nmL [98] a b c = [98] ++ 45 :: (Lib.itoa a ++ 45 :: (Lib.itoa b ++ 45 :: Lib.itoa c)) := nmL_eq 98 a b c
  rw [e, ct_hit _ (by simp), ct_hit _ (itoa_45 g.1), ct_hit _ (itoa_45 (by omega)), Lib.count_miss (ix_miss (itoa_45 (by omega)))]
theorem nm_split {a b c : Int} (h : gdI a b c) : Lib.splitK [45] 0 3 (nmL [98] a b c) = [[98], Lib.itoa a, Lib.itoa b, Lib.itoa c] := by
  have g := gdI_b h
  have e : nmL [98] a b c = [98] ++ 45 :: (Lib.itoa a ++ 45 :: (Lib.itoa b ++ 45 :: Lib.itoa c)) := nmL_eq 98 a b c
  rw [e, sp_hit _ (by simp), sp_hit _ (itoa_45 g.1), sp_hit _ (itoa_45 (by omega))]
  rfl
theorem ba_of (s : ByteArray) : (⟨s.data.toList.toArray⟩ : ByteArray) = s := by cases s; simp
theorem nm_splitB {a b c : Int} (h : gdI a b c) : Lib.splitB ⟨#[45]⟩ 0 (Lib.countB (nmS 98 a b c) ⟨#[45]⟩) (nmS 98 a b c) = [⟨#[98]⟩, itS a, itS b, itS c] ∧ Lib.countB (nmS 98 a b c) ⟨#[45]⟩ = 3 := by
  have hc : Lib.countB (nmS 98 a b c) ⟨#[45]⟩ = 3 := by
    show Lib.count (nmS 98 a b c).data.toList [45] = 3
    rw [nmS_data]
    exact nm_count h
  refine ⟨?_, hc⟩
  rw [hc]
  have h1 := Lib.splitB_data ⟨#[45]⟩ 0 3 (nmS 98 a b c)
  rw [nmS_data, show ((⟨#[45]⟩ : ByteArray).data.toList) = [45] from rfl, nm_split h] at h1
  have h2 := congrArg (List.map fun x : List UInt8 => (⟨x.toArray⟩ : ByteArray)) h1
  rw [List.map_map] at h2
  have h3 : (fun x : List UInt8 => (⟨x.toArray⟩ : ByteArray)) ∘ (fun x : ByteArray => x.data.toList) = id := funext fun s => ba_of s
  rw [h3, List.map_id] at h2
  rw [h2]
  rfl
/- numbers read back -/
theorem decFrom_app (l r : List UInt8) : ∀ acc, Lib.decFrom acc (l ++ r) = (Lib.decFrom acc l).bind fun n => Lib.decFrom n r := by
  induction l with
  | nil => intro acc; rfl
  | cons b l ih =>
    intro acc
    show (match Lib.digitVal b with | some d => Lib.decFrom (acc * 10 + d) (l ++ r) | none => none) = (match Lib.digitVal b with | some d => Lib.decFrom (acc * 10 + d) l | none => none).bind fun n => Lib.decFrom n r
    cases Lib.digitVal b with
    | none => rfl
    | some d => exact ih _
theorem dig_val {i : Nat} (h : i < 10) : Lib.digitVal (UInt8.ofNat (48 + i)) = some i := by
  unfold Lib.digitVal
  rw [dg_of h, if_pos (by omega)]
  congr 1
  omega
theorem decFrom_dec (u : Nat) : Lib.decFrom 0 (Lib.decDigits u) = some u := by
  induction u using Nat.strongRecOn with
  | _ u ih =>
    rw [Lib.decDigits]
    split
    · rename_i h
      unfold Lib.decFrom
      rw [dig_val h]
      simp [Lib.decFrom]
    · rename_i h
      rw [decFrom_app, ih (u / 10) (by omega)]
      show Lib.decFrom (u / 10) [UInt8.ofNat (48 + u % 10)] = _
      unfold Lib.decFrom
      rw [dig_val (by omega)]
      simp only [Lib.decFrom]
      congr 1
      omega
theorem dec_ne (u : Nat) : Lib.decDigits u ≠ [] := by
  rw [Lib.decDigits]
  split <;> simp
theorem atoi_itoa {a : Int} (h : 0 ≤ a) : Lib.atoi (Lib.itoa a) = some a := by
  rw [itoa_pos h]
  have hd := dec_dig a.toNat
  have hf := decFrom_dec a.toNat
  have hne := dec_ne a.toNat
  cases hl : Lib.decDigits a.toNat with
  | nil => exact absurd hl hne
  | cons b r =>
    rw [hl] at hd hf
    have hb := hd b (by simp)
    have h1 : (b == 45) = false := by
      cases h2 : b == 45 with
      | false => rfl
      | true => rw [beq_iff_eq] at h2; rw [h2] at hb; simp at hb
    have h3 : (b == 43) = false := by
      cases h2 : b == 43 with
      | false => rfl
      | true => rw [beq_iff_eq] at h2; rw [h2] at hb; simp at hb
    unfold Lib.atoi
    simp only [h1, h3, Bool.false_eq_true, if_false]
    unfold Lib.decNat
    simp only [List.isEmpty_cons, Bool.false_eq_true, if_false]
    rw [hf]
    simp
    omega
theorem itS_data (a : Int) : (itS a).data.toList = Lib.itoa a := by simp [itS]
theorem itS_len {a : Int} (h0 : 0 ≤ a) (h1 : a ≤ 1099511627776) : (itS a).size ≤ 18 := by
  have e : (itS a).size = (Lib.itoa a).length := by simp [itS, ByteArray.size]
  have l2 : (Lib.itoa a).length ≤ 13 := by rw [itoa_pos h0]; exact dec_len _ 13 (by omega) (by omega)
  omega
end Go.Proofs.YtkdgakcmhnadfaaGreatDoor

/- Nb -/
/-
  DERIVED: THE SHELF's CONTRACTS AT THIS DUMP, IN PLAIN WORDS (tools/lay-plain.mjs out of 'YtkdgakcmhnadfaaGreatDoorNb0.lean', which tools/lay-shelf.mjs wrote): THE SAME DECLARATIONS UNDER THE SAME NAMES: 'import', 'namespace', 'open', 'def', 'theorem' AND NOTHING ELSE: no command of the shelf's: FOR A HAND-IN. Each laying: the table of numbers ('.._ren') and one theorem, a field a fact of the dump's own or the kernel's comparison; each contract: ONE APPLICATION.
-/
namespace Go.Proofs
open Go.Shelf
def Tryz.split102_ren : Go.Shelf.Ren := ⟨fun | 146 => 102 | 221 => 127 | 268 => 157 | 138 => 158 | 143 => 159 | 195 => 188 | 197 => 189 | 218 => 190 | 219 => 191 | 260 => 207 | 217 => 208 | 225 => 209 | 224 => 210 | 267 => 211 | 266 => 220 | 314 => 221 | n => n, fun | 9 => 9 | 31 => 97 | 3 => 3 | 4 => 4 | 0 => 0 | 105 => 252 | 21 => 21 | 5 => 5 | 46 => 122 | 119 => 280 | 139 => 283 | 138 => 282 | 146 => 284 | 51 => 131 | n => n, fun | 1 => 22 | 3 => 24 | 4 => 25 | n => n⟩
theorem Tryz.split102 : Go.Proofs.Lays.n146 Tryz.prog Tryz.split102_ren := {
  mixed := by kernel_rfl
  f138 := Tryz.func158.trans (congrArg some (by kernel_rfl))
  f143 := Tryz.func159.trans (congrArg some (by kernel_rfl))
  f146 := Tryz.func102.trans (congrArg some (by kernel_rfl))
  f195 := Tryz.func188.trans (congrArg some (by kernel_rfl))
  f197 := Tryz.func189.trans (congrArg some (by kernel_rfl))
  f217 := Tryz.func208.trans (congrArg some (by kernel_rfl))
  f218 := Tryz.func190.trans (congrArg some (by kernel_rfl))
  f219 := Tryz.func191.trans (congrArg some (by kernel_rfl))
  f221 := Tryz.func127.trans (congrArg some (by kernel_rfl))
  f224 := Tryz.func210.trans (congrArg some (by kernel_rfl))
  f225 := Tryz.func209.trans (congrArg some (by kernel_rfl))
  f260 := Tryz.func207.trans (congrArg some (by kernel_rfl))
  f266 := Tryz.func220.trans (congrArg some (by kernel_rfl))
  f267 := Tryz.func211.trans (congrArg some (by kernel_rfl))
  f268 := Tryz.func157.trans (congrArg some (by kernel_rfl))
  f314 := Tryz.func221.trans (congrArg some (by kernel_rfl))
  t0 := Tryz.underlying0
  a0 := Tryz.isAgg0
  z0 := Tryz.sizeOf0
  v0 := Tryz.zeroValue0
  t3 := Tryz.underlying3
  a3 := Tryz.isAgg3
  z3 := Tryz.sizeOf3
  v3 := Tryz.zeroValue3
  t4 := Tryz.underlying4
  a4 := Tryz.isAgg4
  z4 := Tryz.sizeOf4
  v4 := Tryz.zeroValue4
  t5 := Tryz.underlying5
  a5 := Tryz.isAgg5
  z5 := Tryz.sizeOf5
  v5 := Tryz.zeroValue5
  t9 := Tryz.underlying9
  a9 := Tryz.isAgg9
  z9 := Tryz.sizeOf9
  v9 := Tryz.zeroValue9
  t21 := Tryz.underlying21
  a21 := Tryz.isAgg21
  z21 := Tryz.sizeOf21
  v21 := Tryz.zeroValue21
  t31 := Tryz.underlying97
  a31 := Tryz.isAgg97
  z31 := Tryz.sizeOf97
  v31 := Tryz.zeroValue97
  t46 := Tryz.underlying122
  a46 := Tryz.isAgg122
  z46 := Tryz.sizeOf122
  v46 := Tryz.zeroValue122
  t51 := Tryz.underlying131
  a51 := Tryz.isAgg131
  z51 := Tryz.sizeOf131
  v51 := Tryz.zeroValue131
  t105 := Tryz.underlying252
  a105 := Tryz.isAgg252
  z105 := Tryz.sizeOf252
  v105 := Tryz.zeroValue252
  t119 := Tryz.underlying280
  a119 := Tryz.isAgg280
  z119 := Tryz.sizeOf280
  t138 := Tryz.underlying282
  a138 := Tryz.isAgg282
  z138 := Tryz.sizeOf282
  v138 := Tryz.zeroValue282
  t139 := Tryz.underlying283
  a139 := Tryz.isAgg283
  z139 := Tryz.sizeOf283
  v139 := Tryz.zeroValue283
  t146 := Tryz.underlying284
  a146 := Tryz.isAgg284
  z146 := Tryz.sizeOf284
  v146 := Tryz.zeroValue284
  g1 := by kernel_rfl
  g3 := by kernel_rfl
  g4 := by kernel_rfl }
def Tryz.atoi103_ren : Go.Shelf.Ren := ⟨fun | 172 => 103 | 244 => 128 | 245 => 129 | 247 => 160 | 279 => 161 | 280 => 162 | 281 => 163 | 282 => 164 | 287 => 192 | 316 => 123 | 171 => 124 | 205 => 193 | 321 => 212 | 322 => 213 | 243 => 153 | 246 => 185 | 283 => 201 | 284 => 202 | 285 => 203 | 286 => 204 | 129 => 139 | 317 => 216 | 318 => 217 | 319 => 218 | 320 => 219 | 337 => 222 | 338 => 223 | n => n, fun | 9 => 9 | 3 => 3 | 75 => 26 | 76 => 156 | 4 => 4 | 5 => 5 | 167 => 224 | 37 => 33 | 0 => 0 | 85 => 225 | 2 => 2 | 168 => 227 | 53 => 171 | 175 => 255 | 46 => 122 | 210 => 258 | 127 => 217 | 145 => 275 | 143 => 273 | 21 => 21 | 171 => 266 | 173 => 268 | 212 => 278 | 51 => 131 | 20 => 20 | 213 => 279 | 232 => 89 | 233 => 239 | 80 => 222 | n => n, fun | 15 => 19 | 16 => 20 | 17 => 23 | 18 => 26 | 19 => 27 | n => n⟩
theorem Tryz.atoi103 : Go.Proofs.Lays.n172 Tryz.prog Tryz.atoi103_ren := {
  mixed := by kernel_rfl
  f129 := Tryz.func139.trans (congrArg some (by kernel_rfl))
  f171 := Tryz.func124.trans (congrArg some (by kernel_rfl))
  f172 := Tryz.func103.trans (congrArg some (by kernel_rfl))
  f205 := Tryz.func193.trans (congrArg some (by kernel_rfl))
  f243 := Tryz.func153.trans (congrArg some (by kernel_rfl))
  f244 := Tryz.func128.trans (congrArg some (by kernel_rfl))
  f245 := Tryz.func129.trans (congrArg some (by kernel_rfl))
  f246 := Tryz.func185.trans (congrArg some (by kernel_rfl))
  f247 := Tryz.func160.trans (congrArg some (by kernel_rfl))
  f279 := Tryz.func161.trans (congrArg some (by kernel_rfl))
  f280 := Tryz.func162.trans (congrArg some (by kernel_rfl))
  f281 := Tryz.func163.trans (congrArg some (by kernel_rfl))
  f282 := Tryz.func164.trans (congrArg some (by kernel_rfl))
  f283 := Tryz.func201.trans (congrArg some (by kernel_rfl))
  f284 := Tryz.func202.trans (congrArg some (by kernel_rfl))
  f285 := Tryz.func203.trans (congrArg some (by kernel_rfl))
  f286 := Tryz.func204.trans (congrArg some (by kernel_rfl))
  f287 := Tryz.func192.trans (congrArg some (by kernel_rfl))
  f316 := Tryz.func123.trans (congrArg some (by kernel_rfl))
  f317 := Tryz.func216.trans (congrArg some (by kernel_rfl))
  f318 := Tryz.func217.trans (congrArg some (by kernel_rfl))
  f319 := Tryz.func218.trans (congrArg some (by kernel_rfl))
  f320 := Tryz.func219.trans (congrArg some (by kernel_rfl))
  f321 := Tryz.func212.trans (congrArg some (by kernel_rfl))
  f322 := Tryz.func213.trans (congrArg some (by kernel_rfl))
  f337 := Tryz.func222.trans (congrArg some (by kernel_rfl))
  f338 := Tryz.func223.trans (congrArg some (by kernel_rfl))
  t0 := Tryz.underlying0
  a0 := Tryz.isAgg0
  z0 := Tryz.sizeOf0
  v0 := Tryz.zeroValue0
  t2 := Tryz.underlying2
  a2 := Tryz.isAgg2
  z2 := Tryz.sizeOf2
  v2 := Tryz.zeroValue2
  t3 := Tryz.underlying3
  a3 := Tryz.isAgg3
  z3 := Tryz.sizeOf3
  v3 := Tryz.zeroValue3
  t4 := Tryz.underlying4
  a4 := Tryz.isAgg4
  z4 := Tryz.sizeOf4
  v4 := Tryz.zeroValue4
  t5 := Tryz.underlying5
  a5 := Tryz.isAgg5
  z5 := Tryz.sizeOf5
  v5 := Tryz.zeroValue5
  t9 := Tryz.underlying9
  a9 := Tryz.isAgg9
  z9 := Tryz.sizeOf9
  v9 := Tryz.zeroValue9
  t20 := Tryz.underlying20
  a20 := Tryz.isAgg20
  z20 := Tryz.sizeOf20
  v20 := Tryz.zeroValue20
  t21 := Tryz.underlying21
  a21 := Tryz.isAgg21
  z21 := Tryz.sizeOf21
  v21 := Tryz.zeroValue21
  t37 := Tryz.underlying33
  a37 := Tryz.isAgg33
  z37 := Tryz.sizeOf33
  v37 := Tryz.zeroValue33
  t46 := Tryz.underlying122
  a46 := Tryz.isAgg122
  z46 := Tryz.sizeOf122
  v46 := Tryz.zeroValue122
  t51 := Tryz.underlying131
  a51 := Tryz.isAgg131
  z51 := Tryz.sizeOf131
  v51 := Tryz.zeroValue131
  t53 := Tryz.underlying171
  a53 := Tryz.isAgg171
  z53 := Tryz.sizeOf171
  v53 := Tryz.zeroValue171
  t75 := Tryz.underlying26
  a75 := Tryz.isAgg26
  z75 := Tryz.sizeOf26
  v75 := Tryz.zeroValue26
  t76 := Tryz.underlying156
  a76 := Tryz.isAgg156
  z76 := Tryz.sizeOf156
  v76 := Tryz.zeroValue156
  t85 := Tryz.underlying225
  a85 := Tryz.isAgg225
  z85 := Tryz.sizeOf225
  v85 := Tryz.zeroValue225
  t127 := Tryz.underlying217
  a127 := Tryz.isAgg217
  z127 := Tryz.sizeOf217
  v127 := Tryz.zeroValue217
  t143 := Tryz.underlying273
  a143 := Tryz.isAgg273
  z143 := Tryz.sizeOf273
  v143 := Tryz.zeroValue273
  t145 := Tryz.underlying275
  a145 := Tryz.isAgg275
  z145 := Tryz.sizeOf275
  v145 := Tryz.zeroValue275
  t167 := Tryz.underlying224
  a167 := Tryz.isAgg224
  z167 := Tryz.sizeOf224
  v167 := Tryz.zeroValue224
  t168 := Tryz.underlying227
  a168 := Tryz.isAgg227
  z168 := Tryz.sizeOf227
  v168 := Tryz.zeroValue227
  t171 := Tryz.underlying266
  a171 := Tryz.isAgg266
  z171 := Tryz.sizeOf266
  v171 := Tryz.zeroValue266
  t173 := Tryz.underlying268
  a173 := Tryz.isAgg268
  z173 := Tryz.sizeOf268
  v173 := Tryz.zeroValue268
  t175 := Tryz.underlying255
  a175 := Tryz.isAgg255
  z175 := Tryz.sizeOf255
  v175 := Tryz.zeroValue255
  t210 := Tryz.underlying258
  a210 := Tryz.isAgg258
  z210 := Tryz.sizeOf258
  v210 := Tryz.zeroValue258
  t212 := Tryz.underlying278
  a212 := Tryz.isAgg278
  z212 := Tryz.sizeOf278
  v212 := Tryz.zeroValue278
  t213 := Tryz.underlying279
  a213 := Tryz.isAgg279
  z213 := Tryz.sizeOf279
  t232 := Tryz.underlying89
  a232 := Tryz.isAgg89
  z232 := Tryz.sizeOf89
  v232 := Tryz.zeroValue89
  t233 := Tryz.underlying239
  a233 := Tryz.isAgg239
  z233 := Tryz.sizeOf239
  v233 := Tryz.zeroValue239
  g15 := by kernel_rfl
  g16 := by kernel_rfl
  g17 := by kernel_rfl
  g18 := by kernel_rfl
  g19 := by kernel_rfl }
def Tryz.sort65_ren : Go.Shelf.Ren := ⟨fun | 6 => 65 | 15 => 105 | 14 => 104 | 28 => 138 | 29 => 139 | 20 => 130 | 21 => 131 | 22 => 132 | 23 => 133 | 24 => 134 | 25 => 135 | 26 => 136 | 27 => 137 | 46 => 165 | 47 => 166 | 48 => 167 | 49 => 168 | 50 => 169 | 57 => 194 | n => n, fun | 22 => 53 | 24 => 32 | 25 => 39 | 3 => 3 | 39 => 122 | 0 => 0 | 53 => 131 | 55 => 171 | 4 => 4 | 46 => 197 | 45 => 196 | 50 => 201 | 5 => 5 | 9 => 9 | 66 => 230 | 70 => 234 | 76 => 259 | 77 => 129 | n => n, fun | n => n⟩
theorem Tryz.sort65 : Go.Proofs.SlLaysF0.n6 Tryz.prog Tryz.sort65_ren := {
  mixed := by kernel_rfl
  f6 := ⟨Tryz.f65.name, by decide, Tryz.func65.trans (congrArg some (by kernel_rfl))⟩
  f14 := ⟨Tryz.f104.name, by decide, Tryz.func104.trans (congrArg some (by kernel_rfl))⟩
  f15 := Tryz.func105.trans (congrArg some (by kernel_rfl))
  f20 := ⟨Tryz.f130.name, by decide, Tryz.func130.trans (congrArg some (by kernel_rfl))⟩
  f21 := ⟨Tryz.f131.name, by decide, Tryz.func131.trans (congrArg some (by kernel_rfl))⟩
  f22 := ⟨Tryz.f132.name, by decide, Tryz.func132.trans (congrArg some (by kernel_rfl))⟩
  f23 := ⟨Tryz.f133.name, by decide, Tryz.func133.trans (congrArg some (by kernel_rfl))⟩
  f24 := ⟨Tryz.f134.name, by decide, Tryz.func134.trans (congrArg some (by kernel_rfl))⟩
  f25 := ⟨Tryz.f135.name, by decide, Tryz.func135.trans (congrArg some (by kernel_rfl))⟩
  f26 := ⟨Tryz.f136.name, by decide, Tryz.func136.trans (congrArg some (by kernel_rfl))⟩
  f27 := ⟨Tryz.f137.name, by decide, Tryz.func137.trans (congrArg some (by kernel_rfl))⟩
  f28 := Tryz.func138.trans (congrArg some (by kernel_rfl))
  f29 := Tryz.func139.trans (congrArg some (by kernel_rfl))
  f46 := ⟨Tryz.f165.name, by decide, Tryz.func165.trans (congrArg some (by kernel_rfl))⟩
  f47 := Tryz.func166.trans (congrArg some (by kernel_rfl))
  f48 := Tryz.func167.trans (congrArg some (by kernel_rfl))
  f49 := ⟨Tryz.f168.name, by decide, Tryz.func168.trans (congrArg some (by kernel_rfl))⟩
  f50 := ⟨Tryz.f169.name, by decide, Tryz.func169.trans (congrArg some (by kernel_rfl))⟩
  f57 := ⟨Tryz.f194.name, by decide, Tryz.func194.trans (congrArg some (by kernel_rfl))⟩
  t0 := Tryz.underlying0
  a0 := Tryz.isAgg0
  z0 := Tryz.sizeOf0
  v0 := Tryz.zeroValue0
  t3 := Tryz.underlying3
  a3 := Tryz.isAgg3
  z3 := Tryz.sizeOf3
  v3 := Tryz.zeroValue3
  t4 := Tryz.underlying4
  a4 := Tryz.isAgg4
  z4 := Tryz.sizeOf4
  v4 := Tryz.zeroValue4
  t5 := Tryz.underlying5
  a5 := Tryz.isAgg5
  z5 := Tryz.sizeOf5
  v5 := Tryz.zeroValue5
  t9 := Tryz.underlying9
  a9 := Tryz.isAgg9
  z9 := Tryz.sizeOf9
  v9 := Tryz.zeroValue9
  t22 := Tryz.underlying53
  a22 := Tryz.isAgg53
  z22 := Tryz.sizeOf53
  v22 := Tryz.zeroValue53
  t25 := Tryz.underlying39
  a25 := Tryz.isAgg39
  z25 := Tryz.sizeOf39
  v25 := Tryz.zeroValue39
  t39 := Tryz.underlying122
  a39 := Tryz.isAgg122
  z39 := Tryz.sizeOf122
  v39 := Tryz.zeroValue122
  t45 := Tryz.underlying196
  a45 := Tryz.isAgg196
  z45 := Tryz.sizeOf196
  v45 := Tryz.zeroValue196
  t46 := Tryz.underlying197
  a46 := Tryz.isAgg197
  z46 := Tryz.sizeOf197
  v46 := Tryz.zeroValue197
  t50 := Tryz.underlying201
  a50 := Tryz.isAgg201
  z50 := Tryz.sizeOf201
  v50 := Tryz.zeroValue201
  t53 := Tryz.underlying131
  a53 := Tryz.isAgg131
  z53 := Tryz.sizeOf131
  v53 := Tryz.zeroValue131
  t55 := Tryz.underlying171
  a55 := Tryz.isAgg171
  z55 := Tryz.sizeOf171
  v55 := Tryz.zeroValue171
  t66 := Tryz.underlying230
  a66 := Tryz.isAgg230
  z66 := Tryz.sizeOf230
  v66 := Tryz.zeroValue230
  t70 := Tryz.underlying234
  a70 := Tryz.isAgg234
  z70 := Tryz.sizeOf234
  v70 := Tryz.zeroValue234
  t76 := Tryz.underlying259
  a76 := Tryz.isAgg259
  z76 := Tryz.sizeOf259
  v76 := Tryz.zeroValue259
  t77 := Tryz.underlying129
  a77 := Tryz.isAgg129
  z77 := Tryz.sizeOf129
  v77 := Tryz.zeroValue129 }
end Go.Proofs

/- Nc -/
/- Split, Atoi; blobOf of package shelf at a file's name. -/
namespace Go.Proofs.YtkdgakcmhnadfaaGreatDoor
open Go.ChangeShapes Go.WideShapes Go.ChangeAt Go.RowKit Go.Shelf
set_option maxRecDepth 20000
set_option linter.unusedVariables false
set_option linter.unusedSimpArgs false
/- the library's MaxLen holds some number -/
def Mxl (w : World) : Prop := ∃ m, w.cell? ⟨22, 0, none⟩ = some (.int .i64 m)
theorem Mxl.below {w w' : World} (h : Mxl w) (hb : Below w.heap.size w w') : Mxl w' := by
  obtain ⟨m, h1⟩ := h
  exact ⟨m, (hb.cell (p := ⟨22, 0, none⟩) (cell_lt h1)).trans h1⟩
theorem info9 : (Tryz.prog.info? 9).map (fun i => (i.zero, i.size, i.bytes)) = some (some (.string ByteArray.empty), 1, 16) := by kernel_rfl
theorem split_n {w : World} {a b c : Int} (h : gdI a b c) (hm : Hid (Mxl w)) : Calls Tryz.prog 102 #[.string (nmS 98 a b c), .string ⟨#[45]⟩] w fun e w' => e = .returned (.slice (some ⟨w.heap.size, 0, none⟩) 4 4) ∧ w' = w.alloc (.cells #[.string ⟨#[98]⟩, .string (itS a), .string (itS b), .string (itS c)] 9) := by
  obtain ⟨m, h1⟩ := hm.out
  have hs : (nmS 98 a b c).size ≤ 63 := nm_le (b_nm h)
  have hc := Any.strings_Split Tryz.split102 info9 (nmS 98 a b c) ⟨#[45]⟩ m w (by omega) h1 (by decide)
  have h2 := nm_splitB h
  rw [h2.2] at hc
  have h3 := h2.1
  rw [h2.2] at h3
  rw [h3] at hc
  exact hc
theorem atoi_n {w : World} {a : Int} (h0 : 0 ≤ a) (h1 : a ≤ 1099511627776) : Calls Tryz.prog 103 #[.string (itS a)] w fun e w' => e = .returned (.tuple #[.int .i64 a, .nilIface]) ∧ Hid (Below w.heap.size w w') := by
  have hc := Any.strconv_Atoi Tryz.atoi103 (itS a) a (itS_len h0 h1) (by rw [itS_data]; exact atoi_itoa h0) w
  refine hc.mono ?_
  rintro e w' ⟨rfl, t, rfl⟩
  refine ⟨rfl, ?_⟩
  exact Lib.bytesWorld_below w _ t
/- what blobOf keeps: the pieces, the numbers, its answer -/
structure Bq (W : World) (gr gp gn : Nat) (a b c x y z : Int) : Prop where
  r : W.heap[gr]? = some (.cells #[.int .i64 0, .int .i64 0, .int .i64 0] 32 (0, 0))
  p : W.heap[gp]? = some (.cells #[.string ⟨#[98]⟩, .string (itS a), .string (itS b), .string (itS c)] 9 (0, 0))
  n : W.heap[gn]? = some (.cells #[.int .i64 x, .int .i64 y, .int .i64 z] 155 (0, 0))
theorem Bq.below {W W' : World} {gr gp gn : Nat} {a b c x y z : Int} (h : Bq W gr gp gn a b c x y z) (hb : Below W.heap.size W W') : Bq W' gr gp gn a b c x y z :=
  ⟨(hb.block gr (Array.getElem?_eq_some_iff.1 h.r).1).trans h.r, (hb.block gp (Array.getElem?_eq_some_iff.1 h.p).1).trans h.p, (hb.block gn (Array.getElem?_eq_some_iff.1 h.n).1).trans h.n⟩
set_option maxHeartbeats 2000000 in
theorem blobof_ok {w : World} {M : Nat} {E : Nat → Addr} (hE : Hid (Env w M E)) (hm : Hid (Mxl w)) {a b c : Int} (h : Hid (gdI a b c)) :
    Calls Tryz.prog 63 #[.string (nmS 98 a b c)] w fun e w' => e = .returned (.tuple #[idv a b c, .bool true]) ∧ Hid (Below w.heap.size w w') := by
  have g := gdI_b h.out
  have B0 : Hid (0 ≤ a ∧ a ≤ 1099511627776 ∧ 0 ≤ b ∧ b ≤ 1099511627776 ∧ 0 ≤ c ∧ c ≤ 1099511627776) := ⟨g.1, by omega, by omega, by omega, by omega, by omega⟩
  have M0 : Hid (Mxl (w.alloc (.cells #[.int .i64 0, .int .i64 0, .int .i64 0] 32))) := hm.out.below (alloc1 w _)
  have SP := split_n (w := w.alloc (.cells #[.int .i64 0, .int .i64 0, .int .i64 0] 32)) h.out M0
  obtain ⟨s, Hs⟩ : ∃ s, Hid (nmS 98 a b c = s) := ⟨_, rfl⟩
  rw [Hs.out] at SP
  have SP2 := SP
  clear SP g
  rw [Hs.out]
  go_enter Tryz.func63, Tryz.ntmps63
  go_upto_region 5 with (first
    | (go_at_call 102; refine SP2.mono ?_; rintro e w1 ⟨rfl, h1⟩; rw [h1]; clear h1))
  obtain ⟨gr, Hgr⟩ : ∃ gr, Hid (w.heap.size = gr) := ⟨_, rfl⟩
  obtain ⟨gp, Hgp⟩ : ∃ gp, Hid (gr + 1 = gp) := ⟨_, rfl⟩
  obtain ⟨gn, Hgn⟩ : ∃ gn, Hid (gp + 1 = gn) := ⟨_, rfl⟩
  obtain ⟨V0, HV0⟩ : ∃ V0, Hid (((w.alloc (.cells #[.int .i64 0, .int .i64 0, .int .i64 0] 32)).alloc (.cells #[.string ⟨#[98]⟩, .string (itS a), .string (itS b), .string (itS c)] 9)).alloc (.cells #[.int .i64 0, .int .i64 0, .int .i64 0] 155) = V0) := ⟨_, rfl⟩
  have b0 : Hid (Below w.heap.size w V0) := by rw [← HV0.out]; exact (alloc2 w _ _).alloc (by simp; omega) _
  have Q0 : Hid (Bq V0 gr gp gn a b c 0 0 0) := by
    rw [← HV0.out, ← Hgn.out, ← Hgp.out, ← Hgr.out]
    refine ⟨?_, ?_, ?_⟩
    · rw [Below.heap_alloc _ _ _ (by simp; omega), Below.heap_alloc _ _ _ (by simp)]
      exact heap_alloc_new w _
    · rw [Below.heap_alloc _ _ _ (by simp)]
      have h := heap_alloc_new (w.alloc (.cells #[.int .i64 0, .int .i64 0, .int .i64 0] 32)) (.cells #[.string ⟨#[98]⟩, .string (itS a), .string (itS b), .string (itS c)] 9)
      rw [World.size_alloc] at h
      exact h
    · have h := heap_alloc_new ((w.alloc (.cells #[.int .i64 0, .int .i64 0, .int .i64 0] 32)).alloc (.cells #[.string ⟨#[98]⟩, .string (itS a), .string (itS b), .string (itS c)] 9)) (.cells #[.int .i64 0, .int .i64 0, .int .i64 0] 155)
      rw [World.size_alloc, World.size_alloc] at h
      exact h
  have AP : Hid (gr ≠ gp ∧ gr ≠ gn ∧ gp ≠ gn ∧ w.heap.size ≤ gr ∧ w.heap.size ≤ gp ∧ w.heap.size ≤ gn) := by
    have h1 := Hgr.out
    have h2 := Hgp.out
    have h3 := Hgn.out
    exact ⟨by omega, by omega, by omega, by omega, by omega, by omega⟩
  rw [HV0.out, Hgr.out, Hgp.out, Hgn.out]
  go_wp2
  refine wp_loop_rounds 4 ?_
  have p0 : V0.cell? ⟨gp, 1, none⟩ = some (.string (itS a)) := by simp [World.cell?, Q0.out.p]
  rw [rounds_succ]
  go_wp2_with (go_at_call 103; refine (atoi_n B0.out.1 B0.out.2.1).mono ?_; rintro e u0 ⟨rfl, H0⟩
               have K0 : Hid (Bq u0 gr gp gn a b c 0 0 0) := Q0.out.below H0.out
               have n0 : u0.cell? ⟨gn, 0, none⟩ = some (.int .i64 0) := by simp [World.cell?, K0.out.n]
               have f0 : u0.frozen? ⟨gn, 0, none⟩ = false := by simp [World.frozen?, K0.out.n])
  clear p0 n0 f0
  obtain ⟨V1, HV1⟩ : ∃ V1, Hid (u0.setCell ⟨gn, 0, none⟩ (.int .i64 a) = V1) := ⟨_, rfl⟩
  have b1 : Hid (Below w.heap.size w V1) := by
    rw [← HV1.out]
    have h1 := b0.out.trans (H0.out.mono b0.out.size)
    exact Oth.below h1 ((Oth.refl gn u0).setCell 0 _) AP.out.2.2.2.2.2
  have Q1 : Hid (Bq V1 gr gp gn a b c a 0 0) := by
    rw [← HV1.out]
    refine ⟨(Below.heap_setCell _ _ _ _ AP.out.2.1).trans K0.out.r, (Below.heap_setCell _ _ _ _ AP.out.2.2.1).trans K0.out.p, ?_⟩
    rw [heap_setCell_same _ gn 0 _ 155 _ K0.out.n]
    simp
  rw [HV1.out]
  have p1 : V1.cell? ⟨gp, 2, none⟩ = some (.string (itS b)) := by simp [World.cell?, Q1.out.p]
  rw [rounds_succ]
  go_wp2_with (go_at_call 103; refine (atoi_n B0.out.2.2.1 B0.out.2.2.2.1).mono ?_; rintro e u1 ⟨rfl, H1⟩
               have K1 : Hid (Bq u1 gr gp gn a b c a 0 0) := Q1.out.below H1.out
               have n1 : u1.cell? ⟨gn, 1, none⟩ = some (.int .i64 0) := by simp [World.cell?, K1.out.n]
               have f1 : u1.frozen? ⟨gn, 1, none⟩ = false := by simp [World.frozen?, K1.out.n])
  clear p1 n1 f1
  obtain ⟨V2, HV2⟩ : ∃ V2, Hid (u1.setCell ⟨gn, 1, none⟩ (.int .i64 b) = V2) := ⟨_, rfl⟩
  have b2 : Hid (Below w.heap.size w V2) := by
    rw [← HV2.out]
    have h1 := b1.out.trans (H1.out.mono b1.out.size)
    exact Oth.below h1 ((Oth.refl gn u1).setCell 1 _) AP.out.2.2.2.2.2
  have Q2 : Hid (Bq V2 gr gp gn a b c a b 0) := by
    rw [← HV2.out]
    refine ⟨(Below.heap_setCell _ _ _ _ AP.out.2.1).trans K1.out.r, (Below.heap_setCell _ _ _ _ AP.out.2.2.1).trans K1.out.p, ?_⟩
    rw [heap_setCell_same _ gn 1 _ 155 _ K1.out.n]
    simp
  rw [HV2.out]
  have p2 : V2.cell? ⟨gp, 3, none⟩ = some (.string (itS c)) := by simp [World.cell?, Q2.out.p]
  rw [rounds_succ]
  go_wp2_with (go_at_call 103; refine (atoi_n B0.out.2.2.2.2.1 B0.out.2.2.2.2.2).mono ?_; rintro e u2 ⟨rfl, H2⟩
               have K2 : Hid (Bq u2 gr gp gn a b c a b 0) := Q2.out.below H2.out
               have n2 : u2.cell? ⟨gn, 2, none⟩ = some (.int .i64 0) := by simp [World.cell?, K2.out.n]
               have f2 : u2.frozen? ⟨gn, 2, none⟩ = false := by simp [World.frozen?, K2.out.n])
  clear p2 n2 f2
  obtain ⟨V3, HV3⟩ : ∃ V3, Hid (u2.setCell ⟨gn, 2, none⟩ (.int .i64 c) = V3) := ⟨_, rfl⟩
  have b3 : Hid (Below w.heap.size w V3) := by
    rw [← HV3.out]
    have h1 := b2.out.trans (H2.out.mono b2.out.size)
    exact Oth.below h1 ((Oth.refl gn u2).setCell 2 _) AP.out.2.2.2.2.2
  have Q3 : Hid (Bq V3 gr gp gn a b c a b c) := by
    rw [← HV3.out]
    refine ⟨(Below.heap_setCell _ _ _ _ AP.out.2.1).trans K2.out.r, (Below.heap_setCell _ _ _ _ AP.out.2.2.1).trans K2.out.p, ?_⟩
    rw [heap_setCell_same _ gn 2 _ 155 _ K2.out.n]
    simp
  rw [HV3.out]
  have m0 : V3.cell? ⟨gn, 0, none⟩ = some (.int .i64 a) := by simp [World.cell?, Q3.out.n]
  have m1 : V3.cell? ⟨gn, 1, none⟩ = some (.int .i64 b) := by simp [World.cell?, Q3.out.n]
  have m2 : V3.cell? ⟨gn, 2, none⟩ = some (.int .i64 c) := by simp [World.cell?, Q3.out.n]
  have g1 : Hid (idOk a b c = true) := by
    have := h.out
    unfold gdI at this
    show _ = _
    simp [idOk, this]
  have I6 := gdI_64 h.out
  have T3 : Hid (Tab V3) := (hE.out.below b3.out).tab
  rw [rounds_succ]
  go_wp2_with (first
    | (go_at_call 57; refine (isgood_n a b c _).mono ?_; rintro e u4 ⟨rfl, H4⟩; rw [g1.out]
       have b4 : Hid (Below V3.heap.size V3 u4) := (alloc1 V3 _).trans (H4.out.mono (by simp))
       have y0 : u4.cell? ⟨V3.heap.size, 0, none⟩ = some (.int .i64 a) := (H4.out.cell (p := ⟨V3.heap.size, 0, none⟩) (by simp)).trans (by simp)
       have y1 : u4.cell? ⟨V3.heap.size, 1, none⟩ = some (.int .i64 b) := (H4.out.cell (p := ⟨V3.heap.size, 1, none⟩) (by simp)).trans (by simp)
       have y2 : u4.cell? ⟨V3.heap.size, 2, none⟩ = some (.int .i64 c) := (H4.out.cell (p := ⟨V3.heap.size, 2, none⟩) (by simp)).trans (by simp)
       have T4 : Hid (Tab u4) := T3.out.below b4.out
       have K4 : Hid (Bq u4 gr gp gn a b c a b c) := Q3.out.below b4.out)
    | (go_at_call 59; refine (fileof_n a b c I6.1 I6.2.1 I6.2.2 T4).mono ?_; rintro e u5 ⟨rfl, H5⟩; rw [Hs.out]
       have K5 : Hid (Bq u5 gr gp gn a b c a b c) := K4.out.below H5.out
       have z0 : u5.cell? ⟨V3.heap.size, 0, none⟩ = some (.int .i64 a) := (H5.out.cell (p := ⟨V3.heap.size, 0, none⟩) (cell_lt y0)).trans y0
       have z1 : u5.cell? ⟨V3.heap.size, 1, none⟩ = some (.int .i64 b) := (H5.out.cell (p := ⟨V3.heap.size, 1, none⟩) (cell_lt y1)).trans y1
       have z2 : u5.cell? ⟨V3.heap.size, 2, none⟩ = some (.int .i64 c) := (H5.out.cell (p := ⟨V3.heap.size, 2, none⟩) (cell_lt y2)).trans y2
       have r0 : u5.cell? ⟨gr, 0, none⟩ = some (.int .i64 0) := by simp [World.cell?, K5.out.r]
       have r1 : u5.cell? ⟨gr, 1, none⟩ = some (.int .i64 0) := by simp [World.cell?, K5.out.r]
       have r2 : u5.cell? ⟨gr, 2, none⟩ = some (.int .i64 0) := by simp [World.cell?, K5.out.r]
       have f0 : u5.frozen? ⟨gr, 0, none⟩ = false := by simp [World.frozen?, K5.out.r]
       have f1 : u5.frozen? ⟨gr, 1, none⟩ = false := by simp [World.frozen?, K5.out.r]
       have f2 : u5.frozen? ⟨gr, 2, none⟩ = false := by simp [World.frozen?, K5.out.r]
       clear y0 y1 y2))
  refine bodyPost_ret (v := .tuple #[.agg #[.int .i64 a, .int .i64 b, .int .i64 c], .bool true]) (by simp [results, Tryz.results63, go_sem, r0, r1, r2]) rfl ⟨rfl, ?_⟩
  have b5 := b3.out.trans ((b4.out.trans (H5.out.mono b4.out.size)).mono b3.out.size)
  exact Oth.below b5 ((((Oth.refl gr u5).setCell 0 _).setCell 1 _).setCell 2 _) AP.out.2.2.2.1
end Go.Proofs.YtkdgakcmhnadfaaGreatDoor
