import Derived.Test.YtfabnnbljkkihaaGreatDoorMxp
import Derived.Test.YtfabnnbljkkihaaGreatDoorMx00
namespace Go.Proofs.YtfabnnbljkkihaaGreatDoor
set_option linter.unusedVariables false
set_option linter.unusedSimpArgs false
def lookB (C : Ctd) (s : ByteArray) : Option Bkd := if isB (byN s) C.bks then C.bks[plcB (byN s) C.bks]? else none
def lkO (b : Bkd) (k : ByteArray) : Option Obd := if isB (byK k) b.obs then b.obs[plcB (byK k) b.obs]? else none
def lkU (b : Bkd) (k : ByteArray) (i j l : Int) : Option Uld := (b.uls[plcB (byU i j l) b.uls]?).filter (fun u => isB (byU i j l) b.uls && decide (u.key = k))
def lookO (C : Ctd) (s k : ByteArray) : Option Obd := (lookB C s).bind (fun b => lkO b k)
def lookU (C : Ctd) (s k : ByteArray) (i j l : Int) : Option Uld := (lookB C s).bind (fun b => lkU b k i j l)
theorem lookB_mem {C : Ctd} (h : Okk C) {b : Bkd} (hb : b ∈ C.bks) : lookB C b.name = some b := by
 have s := srt_at ordS Bkd.name h.sb hb
 have s2 : isB (byN b.name) C.bks = true := s.2
 unfold lookB
 rw [if_pos s2]; exact s.1
theorem lookO_mem {C : Ctd} (h : Okk C) {b : Bkd} (hb : b ∈ C.bks) {o : Obd} (ho : o ∈ b.obs) : lookO C b.name o.key = some o := by
 have s := srt_at ordS Obd.key (h.bk b hb).so ho
 unfold lookO
 rw [lookB_mem h hb]
 show lkO b o.key = some o
 unfold lkO
 have s2 : isB (byK o.key) b.obs = true := s.2
 rw [if_pos s2]; exact s.1
theorem lookU_mem {C : Ctd} (h : Okk C) {b : Bkd} (hb : b ∈ C.bks) {u : Uld} (hu : u ∈ b.uls) : lookU C b.name u.key u.i0 u.i1 u.i2 = some u := by
 have s := srt_at ordT Uld.id3 (h.bk b hb).su hu
 have s1 : b.uls[plcB (byU u.i0 u.i1 u.i2) b.uls]? = some u := s.1
 have s2 : isB (byU u.i0 u.i1 u.i2) b.uls = true := s.2
 unfold lookU
 rw [lookB_mem h hb]
 show lkU b u.key u.i0 u.i1 u.i2 = some u
 unfold lkU
 rw [s1, Option.filter_some_pos (by rw [s2]; simp)]
theorem set_self {α : Type} {l : List α} {i : Nat} {b : α} (h : l[i]? = some b) : l.set i b = l := by
 obtain ⟨h1, rfl⟩ := List.getElem?_eq_some_iff.1 h
 exact List.set_getElem_self h1
structure Kp (x : Cm) (b b' : Bkd) : Prop where
 nm : b'.name = b.name
 ob : ∀ y ∈ b.obs, y.key ≠ x.ke -> y ∈ b'.obs
 ul : ∀ u ∈ b.uls, u.id3 ≠ (x.u0, x.u1, x.u2) -> u.id3 ≠ (x.i0, x.i1, x.i2) -> u ∈ b'.uls
structure Apt (C : Ctd) (x : Cm) (D : Ctd) : Prop where
 ot : ∀ b ∈ C.bks, b.name ≠ x.bu -> b ∈ D.bks
 ow : ∀ b ∈ C.bks, b.name = x.bu -> (b.obs = [] /\ b.uls = []) ∨ ∃ b' ∈ D.bks, Kp x b b'
def Stp (x : Cm) (b : Bkd) (r : Bkd × Outc) : Prop := (r.2.code = 0 /\ Kp x b r.1) ∨ (r.2.code ≠ 0 /\ r.1 = b /\ r.2.etag = ⟨#[]⟩)
def Apr (C : Ctd) (x : Cm) (r : Ctd × Outc) : Prop := (r.2.code = 0 /\ Apt C x r.1) ∨ (r.2.code ≠ 0 /\ r.1 = C /\ r.2.etag = ⟨#[]⟩)
theorem kp_same (x : Cm) (b : Bkd) : Kp x b b := ⟨rfl, fun y hy _ => hy, fun u hu _ _ => hu⟩
theorem inB_apart {C : Ctd} {x : Cm} {f : Bkd -> Cm -> Bkd × Outc} (h : Okk C) (hf : ∀ b, Okb b -> Stp x b (f b x)) : Apr C x (inB C x f) := by
 unfold inB
 by_cases hi : isB (byN x.bu) C.bks = true
 . rw [if_pos hi]
   obtain ⟨b, hb, hk, hm, hu⟩ := srt_upd ordS Bkd.name h.sb hi
   have hb2 : C.bks[plcB (byN x.bu) C.bks]? = some b := hb
   rw [hb2]
   rcases hf b (h.bk b hm) with ⟨h1, h2⟩ | ⟨h1, h2, h3⟩
   . obtain ⟨s1, s2, s3⟩ := hu _ (h2.nm.trans hk)
     refine .inl ⟨h1, fun c hc hne => (s2 c).2 (.inr ⟨hc, hne⟩), fun c hc he => .inr ⟨(f b x).1, (s2 _).2 (.inl rfl), ?_⟩⟩
     have e : c = b := srt_key ordS Bkd.name h.sb hc hm (he.trans hk.symm)
     subst e; exact h2
   . refine .inr ⟨h1, ?_, h3⟩
     show Ctd.mk (C.bks.set _ (f b x).1) C.fls = C
     rw [h2, set_self hb2]
 . rw [if_neg hi]; exact .inr ⟨by show (1 : Int) ≠ 0; decide, rfl, rfl⟩
theorem apart_app (sum : List Pcd -> ByteArray) {C : Ctd} {x : Cm} (h : Okk C) (hk : x.k ≠ 10) : Apr C x (app sum C x) := by
 unfold app
 split
 . unfold makO
   split
   . exact .inr ⟨by show (4 : Int) ≠ 0; decide, rfl, rfl⟩
   . split
     . exact .inr ⟨by show (7 : Int) ≠ 0; decide, rfl, rfl⟩
     . rename_i hi hl
       have s := srt_set ordS Bkd.name h.sb ⟨x.bu, x.tm, 0, [], []⟩
       refine .inl ⟨rfl, fun b hb hne => (s.2 b).2 (.inr ⟨hb, hne⟩), fun b hb he => ?_⟩
       exact absurd ((srt_is ordS Bkd.name x.bu h.sb).2 ⟨b, hb, he⟩) hi
 . split
   . unfold droO
     split
     . split
       . exact .inr ⟨by show (1 : Int) ≠ 0; decide, rfl, rfl⟩
       . rename_i hi b0 hb0
         split
         . exact .inr ⟨by show (5 : Int) ≠ 0; decide, rfl, rfl⟩
         . rename_i hem
           have s := srt_out ordS Bkd.name h.sb x.bu
           refine .inl ⟨rfl, fun b hb hne => (s.2 b).2 ⟨hb, hne⟩, fun b hb he => .inl ?_⟩
           have e : b = b0 := by
            have s1 := (srt_at ordS Bkd.name h.sb hb).1
            rw [he] at s1
            exact Option.some.inj (s1.symm.trans hb0)
           subst e
           constructor
           . exact Classical.byContradiction (fun hn => hem (.inl hn))
           . exact Classical.byContradiction (fun hn => hem (.inr hn))
     . exact .inr ⟨by show (1 : Int) ≠ 0; decide, rfl, rfl⟩
   . split
     . refine inB_apart h (fun b hb => ?_)
       unfold putO
       split
       . have s := srt_set ordS Obd.key hb.so (obO x x.et [pcO x])
         exact .inl ⟨rfl, rfl, fun y hy hne => (s.2 y).2 (.inr ⟨hy, hne⟩), fun u hu _ _ => hu⟩
       . exact .inr ⟨by show (7 : Int) ≠ 0; decide, rfl, rfl⟩
     . split
       . refine inB_apart h (fun b hb => ?_)
         have s := srt_out ordS Obd.key hb.so x.ke
         exact .inl ⟨rfl, rfl, fun y hy hne => (s.2 y).2 ⟨hy, hne⟩, fun u hu _ _ => hu⟩
       . split
         . refine inB_apart h (fun b hb => ?_)
           unfold staO
           split
           . exact .inr ⟨by show (7 : Int) ≠ 0; decide, rfl, rfl⟩
           . have s := srt_set ordT Uld.id3 hb.su ⟨x.i0, x.i1, x.i2, x.ke, []⟩
             exact .inl ⟨rfl, rfl, fun y hy _ => hy, fun u hu _ hne => (s.2 u).2 (.inr ⟨hu, hne⟩)⟩
         . split
           . refine inB_apart h (fun b hb => ?_)
             unfold parO
             split
             . exact .inr ⟨by show (3 : Int) ≠ 0; decide, rfl, rfl⟩
             . rename_i u hu
               obtain ⟨hi, ha, hke⟩ := upB_some hu
               obtain ⟨v, hv, hkv, hm, hs⟩ := srt_upd ordT Uld.id3 (m := (x.u0, x.u1, x.u2)) hb.su hi
               have e : v = u := Option.some.inj (hv.symm.trans ha)
               subst e
               obtain ⟨s1, s2, s3⟩ := hs { v with pts := setB (byP x.pt) v.pts ⟨x.pt, pcO x⟩ } hkv
               exact .inl ⟨rfl, rfl, fun y hy _ => hy, fun u hu hne _ => (s2 u).2 (.inr ⟨hu, hne⟩)⟩
           . split
             . refine inB_apart h (fun b hb => ?_)
               unfold comO
               split
               . exact .inr ⟨by show (3 : Int) ≠ 0; decide, rfl, rfl⟩
               . split
                 . exact .inr ⟨by show (6 : Int) ≠ 0; decide, rfl, rfl⟩
                 . rename_i l hl
                   split
                   . have s := srt_set ordS Obd.key hb.so (obO x (sum l) l)
                     have t := srt_out ordT Uld.id3 hb.su (x.u0, x.u1, x.u2)
                     exact .inl ⟨rfl, rfl, fun y hy hne => (s.2 y).2 (.inr ⟨hy, hne⟩), fun u hu hne _ => (t.2 u).2 ⟨hu, hne⟩⟩
                   . exact .inr ⟨by show (7 : Int) ≠ 0; decide, rfl, rfl⟩
             . split
               . refine inB_apart h (fun b hb => ?_)
                 unfold aboO
                 split
                 . exact .inr ⟨by show (3 : Int) ≠ 0; decide, rfl, rfl⟩
                 . have t := srt_out ordT Uld.id3 hb.su (x.u0, x.u1, x.u2)
                   exact .inl ⟨rfl, rfl, fun y hy _ => hy, fun u hu hne _ => (t.2 u).2 ⟨hu, hne⟩⟩
               . split
                 . exact inB_apart h (fun b hb => .inl ⟨rfl, rfl, fun y hy _ => hy, fun u hu _ _ => hu⟩)
                 . split
                   . unfold flrO
                     refine .inl ⟨rfl, ?_⟩
                     show Apt C x (if fltO C x = true then _ else _)
                     split
                     . exact ⟨fun b hb _ => hb, fun b hb _ => .inr ⟨b, hb, kp_same x b⟩⟩
                     . exact ⟨fun b hb _ => hb, fun b hb _ => .inr ⟨b, hb, kp_same x b⟩⟩
                   . exact .inr ⟨by show (8 : Int) ≠ 0; decide, rfl, rfl⟩
theorem apt_bk {C D : Ctd} {x : Cm} (hD : Okk D) (h : Apt C x D) {b : Bkd} (hb : b ∈ C.bks) (hne : b.name ≠ x.bu) : lookB D b.name = some b := lookB_mem hD (h.ot b hb hne)
theorem apt_ob {C D : Ctd} {x : Cm} (hD : Okk D) (h : Apt C x D) {b : Bkd} (hb : b ∈ C.bks) (he : b.name = x.bu) {y : Obd} (hy : y ∈ b.obs) (hne : y.key ≠ x.ke) : lookO D b.name y.key = some y := by
 rcases h.ow b hb he with ⟨h1, _⟩ | ⟨b', hb', k⟩
 . rw [h1] at hy; cases hy
 . rw [<- k.nm]; exact lookO_mem hD hb' (k.ob y hy hne)
theorem apt_ul {C D : Ctd} {x : Cm} (hD : Okk D) (h : Apt C x D) {b : Bkd} (hb : b ∈ C.bks) (he : b.name = x.bu) {u : Uld} (hu : u ∈ b.uls) (h1 : u.id3 ≠ (x.u0, x.u1, x.u2)) (h2 : u.id3 ≠ (x.i0, x.i1, x.i2)) : lookU D b.name u.key u.i0 u.i1 u.i2 = some u := by
 rcases h.ow b hb he with ⟨_, h3⟩ | ⟨b', hb', k⟩
 . rw [h3] at hu; cases hu
 . rw [<- k.nm]; exact lookU_mem hD hb' (k.ul u hu h1 h2)
end Go.Proofs.YtfabnnbljkkihaaGreatDoor
