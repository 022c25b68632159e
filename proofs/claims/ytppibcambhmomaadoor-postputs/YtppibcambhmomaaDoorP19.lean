import Derived.Test.YtppibcambhmomaaDoorPp
import Derived.Test.YtppibcambhmomaaDoorP18
namespace Go.Proofs.YtppibcambhmomaaDoor
open Go.ChangeShapes Go.WideShapes Go.ChangeAt Go.RowKit
set_option maxRecDepth 20000
set_option linter.unusedVariables false
set_option linter.unusedSimpArgs false
section
variable {P : Program} {ops : Array Oper} {Q : Exit -> Act -> World -> Prop} {C : World -> Prop}
theorem seq_ops : ∀ (r : List (Nat × Bool)) (a : Act) (w : World), C w -> wpSeq P ops Q C r a w -> wpOps P ops Q (r.map (·.1)) a w := by
 have step : ∀ {i : Nat} {l : List Nat} {a : Act} {w : World}, wpOp P ops Q i (wpOps P ops Q l) a w -> wpOps P ops Q (i :: l) a w := fun {i l a w} h => h
 intro r
 induction r with
 | nil => intro a w _ h; exact h
 | cons x r ih =>
   intro a w hc h
   obtain ⟨i, b⟩ := x
   cases b with
   | false =>
     obtain ⟨o, v, ho, _, hy, H⟩ := h
     exact step (hy.wpOp ho hc (ih _ w hc H))
   | true =>
     obtain ⟨o, ho, H⟩ := h
     exact step (wpOp_step ho (fun K' hK' => H K' (fun a' w' hc' hs => hK' a' w' (ih a' w' hc' hs))))
theorem wp_region_flat {id : Nat} {a : Act} {w : World} (order : List (Nat × Bool)) (hst : order.map (·.1) = List.range ops.size) (hC : C w) (h : wpSeq P ops Q C order a w) : (Code.region id ops false).wp P Q a w := by
 refine wp_region ?_
 rw [<- hst]
 exact seq_ops order a w hC h
end
theorem ticks_n (n : Int) (w : World) : Calls Tryd.prog 61 #[.int .i64 n] w fun e w' => e = .returned (.bool (tmT n)) /\ w' = w := by
 by_cases h1 : 0 <= n
 . by_cases h2 : n <= 1099511627776
   . have EV : Hid (tmT n = true) := decide_eq_true ⟨h1, h2⟩
     rw [EV.out]
     go_enter Tryd.func61, Tryd.ntmps61
     go_wp2
     go_ret
     exact ⟨rfl, rfl⟩
   . have EV : Hid (tmT n = false) := decide_eq_false (by omega)
     rw [EV.out]
     go_enter Tryd.func61, Tryd.ntmps61
     go_wp2
     go_ret
     exact ⟨rfl, rfl⟩
 . have EV : Hid (tmT n = false) := decide_eq_false (by omega)
   rw [EV.out]
   go_enter Tryd.func61, Tryd.ntmps61
   go_wp2
   go_ret
   exact ⟨rfl, rfl⟩
noncomputable def ops40 : Array Oper := match Tryd.f45.body with
 | some c => match regIn 40 c with
   | some o => o
   | none => #[]
 | none => #[]
structure Tw (w W : World) (g1 g3 : Nat) (A Z : Array Value) : Prop where
 h1 : W.heap[g1]? = some (.cells A 60 (0, 0))
 h3 : W.heap[g3]? = some (.cells Z 60 (0, 0))
 bel : Below w.heap.size w W
theorem Tw.below {w W W' : World} {g1 g3 : Nat} {A Z : Array Value} (h : Tw w W g1 g3 A Z) (hb : Below W.heap.size W W') : Tw w W' g1 g3 A Z :=
 ⟨(hb.block _ (gl h.h1)).trans h.h1, (hb.block _ (gl h.h3)).trans h.h3, h.bel.trans (hb.mono h.bel.size)⟩
theorem Tw.c {w W : World} {g1 g3 : Nat} {A Z : Array Value} (h : Tw w W g1 g3 A Z) (j : Nat) (v : Value) (hv : A[j]? = some v) : W.cell? ⟨g1, j, none⟩ = some v := by simp [World.cell?, h.h1, hv]
theorem Tw.z {w W : World} {g1 g3 : Nat} {A Z : Array Value} (h : Tw w W g1 g3 A Z) (j : Nat) (v : Value) (hv : Z[j]? = some v) : W.cell? ⟨g3, j, none⟩ = some v := by simp [World.cell?, h.h3, hv]
set_option maxHeartbeats 16000000 in
theorem chain40 {Q : Exit -> Act -> World -> Prop} {w W : World} {g1 g3 : Nat} {ok : Bool} {k i0 i1 i2 u0 u1 u2 b0 b1 b2 sz pt tm dy : Int} {bu ke et : ByteArray} {pa : Option Addr} {pn pc : Nat} {zk zi0 zi1 zi2 zu0 zu1 zu2 zb0 zb1 zb2 zsz zpt ztm zdy : Int} {zbu zke zet : ByteArray} {zpa : Option Addr} {zpn zpc : Nat} {t0 t2 t5 t6 t7 t8 t9 t10 t11 t12 t13 t14 t15 t16 t17 t18 t19 t20 t21 t22 t23 t24 t25 t26 t27 t28 t29 t30 t31 t32 t33 t34 t35 t36 t37 t38 t39 t40 t41 t42 t43 t44 t45 t46 t47 t48 t49 t50 t51 t52 t53 t54 t55 t56 t57 t58 t59 t60 t61 t62 t63 t64 t65 t66 t67 t68 t69 t70 t71 t72 t73 t74 t75 t76 t77 t78 t79 t80 t81 t82 t83 t84 t85 t86 t87 t88 t89 t90 t91 t92 t93 t94 t95 t96 t97 t98 t99 t100 t101 t102 t103 t104 t105 t106 t107 t108 t109 t110 t111 t112 t113 t114 t115 t116 t117 t118 t119 t120 t121 t122 t123 t124 t125 t126 t127 t128 t129 t130 t131 t132 t133 t134 t135 t136 t137 t138 t139 t140 t141 t142 t143 t144 t145 t146 t147 t148 t149 t150 t151 t152 t153 t154 t155 t156 t157 t158 t159 t160 t161 t162 t163 t164 t165 t166 t167 t168 t169 t170 t171 t172 t173 t174 t175 t176 t177 t178 t179 t180 t181 t182 t183 t184 t185 t186 t187 t188 t189 t190 t191 t192 t193 t194 t195 t196 t197 t198 t199 t200 t201 t202 t203 t204 t205 t206 t207 t208 t209 t210 t211 t212 t213 t214 t215 t216 t217 t218 t219 t220 t221 t222 t223 t224 t225 t226 t227 t228 t229 t230 t231 t232 t233 t234 t235 t236 t237 t238 t239 t240 t241 t242 t243 t244 t245 t246 t247 t248 t249 t250 t251 t252 t253 t254 : Value} (hQ : ∀ c a w d v, Q (.panic c) (Act.put a d v) w -> Q (.panic c) a w) (HC : Hid (Tw w W g1 g3 #[.int .i64 k,.int .i64 i0,.int .i64 i1,.int .i64 i2,.string bu,.string ke,.int .i64 u0,.int .i64 u1,.int .i64 u2,.int .i64 b0,.int .i64 b1,.int .i64 b2,.int .i64 sz,.string et,.int .i64 pt,.slice pa pn pc,.int .i64 tm,.int .i64 dy] #[.int .i64 zk,.int .i64 zi0,.int .i64 zi1,.int .i64 zi2,.string zbu,.string zke,.int .i64 zu0,.int .i64 zu1,.int .i64 zu2,.int .i64 zb0,.int .i64 zb1,.int .i64 zb2,.int .i64 zsz,.string zet,.int .i64 zpt,.slice zpa zpn zpc,.int .i64 ztm,.int .i64 zdy]))
  (hfin : Hid (∀ (a' : Act) (W' : World), a'.tmps.getD 2 undef = .bool (ok && (tmT tm && (tmT dy && (gdI u0 u1 u2 && (decide (zbu = bu) && (decide (zke = ke) && (decide (zu0 = u0 /\ zu1 = u1 /\ zu2 = u2) && (decide ((zb0 = b0 /\ zb1 = b1 /\ zb2 = b2) /\ zsz = sz /\ zet = et) && (decide (zpt = pt) && (decide (ztm = tm) && (decide (zdy = dy) && decide ((zpn : Int) = (pn : Int))))))))))))) -> a'.defers = [] -> Below w.heap.size w W' -> Q .normal a' W')) :
  (Code.region 40 ops40 false).wp Tryd.prog Q ⟨#[t0, .pointer (some ⟨g1, 0, none⟩), t2, .pointer (some ⟨g3, 0, none⟩),.bool ok, t5, t6, t7, t8, t9, t10, t11, t12, t13, t14, t15, t16, t17, t18, t19, t20, t21, t22, t23, t24, t25, t26, t27, t28, t29, t30, t31, t32, t33, t34, t35, t36, t37, t38, t39, t40, t41, t42, t43, t44, t45, t46, t47, t48, t49, t50, t51, t52, t53, t54, t55, t56, t57, t58, t59, t60, t61, t62, t63, t64, t65, t66, t67, t68, t69, t70, t71, t72, t73, t74, t75, t76, t77, t78, t79, t80, t81, t82, t83, t84, t85, t86, t87, t88, t89, t90, t91, t92, t93, t94, t95, t96, t97, t98, t99, t100, t101, t102, t103, t104, t105, t106, t107, t108, t109, t110, t111, t112, t113, t114, t115, t116, t117, t118, t119, t120, t121, t122, t123, t124, t125, t126, t127, t128, t129, t130, t131, t132, t133, t134, t135, t136, t137, t138, t139, t140, t141, t142, t143, t144, t145, t146, t147, t148, t149, t150, t151, t152, t153, t154, t155, t156, t157, t158, t159, t160, t161, t162, t163, t164, t165, t166, t167, t168, t169, t170, t171, t172, t173, t174, t175, t176, t177, t178, t179, t180, t181, t182, t183, t184, t185, t186, t187, t188, t189, t190, t191, t192, t193, t194, t195, t196, t197, t198, t199, t200, t201, t202, t203, t204, t205, t206, t207, t208, t209, t210, t211, t212, t213, t214, t215, t216, t217, t218, t219, t220, t221, t222, t223, t224, t225, t226, t227, t228, t229, t230, t231, t232, t233, t234, t235, t236, t237, t238, t239, t240, t241, t242, t243, t244, t245, t246, t247, t248, t249, t250, t251, t252, t253, t254], []⟩ W := by
 obtain ⟨v0, Hv0⟩ := nm (tmT tm)
 obtain ⟨v1, Hv1⟩ := nm (tmT dy)
 obtain ⟨v2, Hv2⟩ := nm (gdI u0 u1 u2)
 obtain ⟨z0, Hz0⟩ := nm (decide (zbu = bu))
 obtain ⟨z1, Hz1⟩ := nm (decide (zke = ke))
 obtain ⟨z2, Hz2⟩ := nm (decide (zu0 = u0 /\ zu1 = u1 /\ zu2 = u2))
 obtain ⟨z3, Hz3⟩ := nm (decide ((zb0 = b0 /\ zb1 = b1 /\ zb2 = b2) /\ zsz = sz /\ zet = et))
 obtain ⟨z4, Hz4⟩ := nm (decide (zpt = pt))
 obtain ⟨z5, Hz5⟩ := nm (decide (ztm = tm))
 obtain ⟨z6, Hz6⟩ := nm (decide (zdy = dy))
 obtain ⟨z7, Hz7⟩ := nm (decide ((zpn : Int) = (pn : Int)))
 rw [Hv0.out, Hv1.out, Hv2.out, Hz0.out, Hz1.out, Hz2.out, Hz3.out, Hz4.out, Hz5.out, Hz6.out, Hz7.out] at hfin
 have Ez0 : ∀ w, (Op.equalIn 10000 9 (.string zbu) (.string bu)).run Tryd.prog w = .ok z0 w := fun w => by rw [eqS, Hz0.out]
 have Ez1 : ∀ w, (Op.equalIn 10000 9 (.string zke) (.string ke)).run Tryd.prog w = .ok z1 w := fun w => by rw [eqS, Hz1.out]
 have Ez2 : ∀ w, (Op.equalIn 10000 23 (idv zu0 zu1 zu2) (idv u0 u1 u2)).run Tryd.prog w = .ok z2 w := fun w => by rw [eqId, Hz2.out]
 have Ez3 : ∀ w, (Op.equalIn 10000 58 (.agg #[.int .i64 zb0,.int .i64 zb1,.int .i64 zb2,.int .i64 zsz,.string zet]) (.agg #[.int .i64 b0,.int .i64 b1,.int .i64 b2,.int .i64 sz,.string et])).run Tryd.prog w = .ok z3 w := fun w => by rw [eqPc, Hz3.out]
 have Dz4 : decide (zpt = pt) = z4 := Hz4.out
 have Dz5 : decide (ztm = tm) = z5 := Hz5.out
 have Dz6 : decide (zdy = dy) = z6 := Hz6.out
 have Dz7 : decide ((zpn : Int) = (pn : Int)) = z7 := Hz7.out
 have Dz4' : (zpt == pt) = z4 := by rw [<- Dz4]; by_cases h : zpt = pt <;> simp [h]
 have Dz5' : (ztm == tm) = z5 := by rw [<- Dz5]; by_cases h : ztm = tm <;> simp [h]
 have Dz6' : (zdy == dy) = z6 := by rw [<- Dz6]; by_cases h : zdy = dy <;> simp [h]
 have Dz7' : decide (zpn = pn) = z7 := by rw [<- Dz7]; exact decide_eq_decide.2 (by omega)
 have Dz7b : ((zpn : Int) == (pn : Int)) = z7 := by rw [<- Dz7]; by_cases h : (zpn : Int) = (pn : Int) <;> simp [h]
 have Dz0 : (zbu.toList == bu.toList) = z0 := by
  have h := Ez0 W
  rw [run_equalIn_string W 9999 9 zbu bu Tryd.underlying9] at h
  simpa using h
 have Dz1 : (zke.toList == ke.toList) = z1 := by
  have h := Ez1 W
  rw [run_equalIn_string W 9999 9 zke ke Tryd.underlying9] at h
  simpa using h
 refine wp_region_flat (C := fun W => Tw w W g1 g3 #[.int .i64 k,.int .i64 i0,.int .i64 i1,.int .i64 i2,.string bu,.string ke,.int .i64 u0,.int .i64 u1,.int .i64 u2,.int .i64 b0,.int .i64 b1,.int .i64 b2,.int .i64 sz,.string et,.int .i64 pt,.slice pa pn pc,.int .i64 tm,.int .i64 dy] #[.int .i64 zk,.int .i64 zi0,.int .i64 zi1,.int .i64 zi2,.string zbu,.string zke,.int .i64 zu0,.int .i64 zu1,.int .i64 zu2,.int .i64 zb0,.int .i64 zb1,.int .i64 zb2,.int .i64 zsz,.string zet,.int .i64 zpt,.slice zpa zpn zpc,.int .i64 ztm,.int .i64 zdy]) [(0, false), (1, false), (2, false), (3, false), (4, true), (5, false), (6, false), (7, false), (8, false), (9, true), (10, false), (11, false), (12, false), (13, false), (14, true), (15, false), (16, false), (17, false), (18, false), (19, false), (20, false), (21, false), (22, false), (23, false), (24, false), (25, false), (26, false), (27, false), (28, false), (29, false), (30, false), (31, false), (32, false), (33, false), (34, false), (35, false), (36, false), (37, false), (38, false), (39, false), (40, false), (41, false), (42, false), (43, false), (44, false), (45, false), (46, false), (47, false), (48, false), (49, false), (50, false), (51, false), (52, false), (53, false), (54, false), (55, false), (56, false), (57, false), (58, false), (59, false), (60, false), (61, false), (62, false), (63, false), (64, false), (65, false), (66, false), (67, false), (68, false), (69, false), (70, false), (71, false), (72, false), (73, false), (74, false)] (by kernel_rfl) HC.out ?_
 cases ok with
 | false =>
   refine seq_plain hQ _ [(some 181,.bool false), (some 182,.bool false), (some 183, undef), (some 184, undef), (some 185, undef), (some 186,.bool false), (some 187,.bool false), (some 188, undef), (some 189, undef), (some 190, undef), (some 191,.bool false), (some 192,.bool false), (some 193, undef), (some 194, undef), (some 195, undef), (some 196,.bool false), (some 197,.bool false), (some 198, undef), (some 199, undef), (some 200, undef), (some 201, undef), (some 202, undef), (some 203,.bool false), (some 204,.bool false), (some 205, undef), (some 206, undef), (some 207, undef), (some 208, undef), (some 209, undef), (some 210,.bool false), (some 211,.bool false), (some 212, undef), (some 213, undef), (some 214, undef), (some 215, undef), (some 216, undef), (some 217,.bool false), (some 218,.bool false), (some 219, undef), (some 220, undef), (some 221, undef), (some 222, undef), (some 223, undef), (some 224,.bool false), (some 225,.bool false), (some 226, undef), (some 227, undef), (some 228, undef), (some 229, undef), (some 230, undef), (some 231,.bool false), (some 232,.bool false), (some 233, undef), (some 234, undef), (some 235, undef), (some 236, undef), (some 237, undef), (some 238,.bool false), (some 239,.bool false), (some 240, undef), (some 241, undef), (some 242, undef), (some 243, undef), (some 244, undef), (some 245,.bool false), (some 246,.bool false), (some 247, undef), (some 248, undef), (some 249, undef), (some 250, undef), (some 251, undef), (some 252, undef), (some 253, undef), (some 254,.bool false), (some 2,.bool false)] _ _ (by kernel_rfl) HC.out ?_
   refine hfin.out _ _ ?_ rfl HC.out.bel
   simp [putAll, Act.put]
 | true =>
   refine seq_take (o := ⟨some 181, .move (.tmp 4), 4, "ref.go:82", #[], none⟩) (v := .bool true) (by kernel_rfl) (fun c a w h => hQ c a w _ _ h) (Or.inl ⟨by kernel_rfl, fun W hW => by go_simp⟩) ?_
   simp only [pG,Act.put]
   refine seq_take (o := ⟨some 182, .move (.tmp 181), 4, "ref.go:82", #[⟨0, .data⟩], none⟩) (v := .bool true) (by kernel_rfl) (fun c a w h => hQ c a w _ _ h) (Or.inl ⟨by kernel_rfl, fun W hW => by go_simp⟩) ?_
   simp only [pG,Act.put]
   refine seq_take (o := ⟨some 183, .fieldAddr 60 (.tmp 1) 8, 0, "ref.go:82", #[⟨1, .guard⟩], some (1, true)⟩) (v := .pointer (some ⟨g1, 16, none⟩)) (by kernel_rfl) (fun c a w h => hQ c a w _ _ h) (Or.inl ⟨by kernel_rfl, fun W hW => by go_simp⟩) ?_
   simp only [pG,Act.put]
   refine seq_take (o := ⟨some 184, .load 3 (.tmp 183), 3, "ref.go:82", #[⟨2, .data⟩, ⟨1, .guard⟩], some (1, true)⟩) (v := .int .i64 tm) (by kernel_rfl) (fun c a w h => hQ c a w _ _ h) (Or.inl ⟨by kernel_rfl, fun W hW => by have q0 := hW.c 16 _ rfl; go_simp⟩) ?_
   simp only [pG,Act.put]
   refine seq_call (o := ⟨some 185, .call { callee := .value (.func 61), args := #[.tmp 184], argTypes := #[3] }, 4, "ref.go:82", #[⟨3, .data⟩, ⟨1, .chain⟩, ⟨1, .guard⟩], some (1, true)⟩) (by kernel_rfl) (fun K hK => ?_)
   rw [if_pos (by kernel_rfl)]
   go_simp
   go_wp2_with (go_at_call 61; refine (ticks_n _ _).mono ?_; rintro e w0 ⟨rfl, h0⟩; rw [h0, Hv0.out]; clear h0)
   refine hK.out _ _ HC.out ?_
   clear hK K
   try simp only [pG,Act.put]
   cases v0 with
   | false =>
     refine seq_plain hQ _ [(some 186,.bool false), (some 187,.bool false), (some 188, undef), (some 189, undef), (some 190, undef), (some 191,.bool false), (some 192,.bool false), (some 193, undef), (some 194, undef), (some 195, undef), (some 196,.bool false), (some 197,.bool false), (some 198, undef), (some 199, undef), (some 200, undef), (some 201, undef), (some 202, undef), (some 203,.bool false), (some 204,.bool false), (some 205, undef), (some 206, undef), (some 207, undef), (some 208, undef), (some 209, undef), (some 210,.bool false), (some 211,.bool false), (some 212, undef), (some 213, undef), (some 214, undef), (some 215, undef), (some 216, undef), (some 217,.bool false), (some 218,.bool false), (some 219, undef), (some 220, undef), (some 221, undef), (some 222, undef), (some 223, undef), (some 224,.bool false), (some 225,.bool false), (some 226, undef), (some 227, undef), (some 228, undef), (some 229, undef), (some 230, undef), (some 231,.bool false), (some 232,.bool false), (some 233, undef), (some 234, undef), (some 235, undef), (some 236, undef), (some 237, undef), (some 238,.bool false), (some 239,.bool false), (some 240, undef), (some 241, undef), (some 242, undef), (some 243, undef), (some 244, undef), (some 245,.bool false), (some 246,.bool false), (some 247, undef), (some 248, undef), (some 249, undef), (some 250, undef), (some 251, undef), (some 252, undef), (some 253, undef), (some 254,.bool false), (some 2,.bool false)] _ _ (by kernel_rfl) HC.out ?_
     refine hfin.out _ _ ?_ rfl HC.out.bel
     simp [putAll, Act.put]
   | true =>
     refine seq_take (o := ⟨some 186, .pick (.tmp 182) (.tmp 185) (.const (.bool false)), 4, "ref.go:82", #[⟨1, .data⟩, ⟨4, .data⟩], none⟩) (v := .bool true) (by kernel_rfl) (fun c a w h => hQ c a w _ _ h) (Or.inl ⟨by kernel_rfl, fun W hW => by go_simp⟩) ?_
     simp only [pG,Act.put]
     refine seq_take (o := ⟨some 187, .move (.tmp 186), 4, "ref.go:82", #[⟨5, .data⟩, ⟨4, .chain⟩], none⟩) (v := .bool true) (by kernel_rfl) (fun c a w h => hQ c a w _ _ h) (Or.inl ⟨by kernel_rfl, fun W hW => by go_simp⟩) ?_
     simp only [pG,Act.put]
     refine seq_take (o := ⟨some 188, .fieldAddr 60 (.tmp 1) 9, 0, "ref.go:82", #[⟨6, .guard⟩], some (6, true)⟩) (v := .pointer (some ⟨g1, 17, none⟩)) (by kernel_rfl) (fun c a w h => hQ c a w _ _ h) (Or.inl ⟨by kernel_rfl, fun W hW => by go_simp⟩) ?_
     simp only [pG,Act.put]
     refine seq_take (o := ⟨some 189, .load 3 (.tmp 188), 3, "ref.go:82", #[⟨7, .data⟩, ⟨6, .guard⟩], some (6, true)⟩) (v := .int .i64 dy) (by kernel_rfl) (fun c a w h => hQ c a w _ _ h) (Or.inl ⟨by kernel_rfl, fun W hW => by have q0 := hW.c 17 _ rfl; go_simp⟩) ?_
     simp only [pG,Act.put]
     refine seq_call (o := ⟨some 190, .call { callee := .value (.func 61), args := #[.tmp 189], argTypes := #[3] }, 4, "ref.go:82", #[⟨8, .data⟩, ⟨6, .chain⟩, ⟨6, .guard⟩], some (6, true)⟩) (by kernel_rfl) (fun K hK => ?_)
     rw [if_pos (by kernel_rfl)]
     go_simp
     go_wp2_with (go_at_call 61; refine (ticks_n _ _).mono ?_; rintro e w0 ⟨rfl, h0⟩; rw [h0, Hv1.out]; clear h0)
     refine hK.out _ _ HC.out ?_
     clear hK K
     try simp only [pG,Act.put]
     cases v1 with
     | false =>
       refine seq_plain hQ _ [(some 191,.bool false), (some 192,.bool false), (some 193, undef), (some 194, undef), (some 195, undef), (some 196,.bool false), (some 197,.bool false), (some 198, undef), (some 199, undef), (some 200, undef), (some 201, undef), (some 202, undef), (some 203,.bool false), (some 204,.bool false), (some 205, undef), (some 206, undef), (some 207, undef), (some 208, undef), (some 209, undef), (some 210,.bool false), (some 211,.bool false), (some 212, undef), (some 213, undef), (some 214, undef), (some 215, undef), (some 216, undef), (some 217,.bool false), (some 218,.bool false), (some 219, undef), (some 220, undef), (some 221, undef), (some 222, undef), (some 223, undef), (some 224,.bool false), (some 225,.bool false), (some 226, undef), (some 227, undef), (some 228, undef), (some 229, undef), (some 230, undef), (some 231,.bool false), (some 232,.bool false), (some 233, undef), (some 234, undef), (some 235, undef), (some 236, undef), (some 237, undef), (some 238,.bool false), (some 239,.bool false), (some 240, undef), (some 241, undef), (some 242, undef), (some 243, undef), (some 244, undef), (some 245,.bool false), (some 246,.bool false), (some 247, undef), (some 248, undef), (some 249, undef), (some 250, undef), (some 251, undef), (some 252, undef), (some 253, undef), (some 254,.bool false), (some 2,.bool false)] _ _ (by kernel_rfl) HC.out ?_
       refine hfin.out _ _ ?_ rfl HC.out.bel
       simp [putAll, Act.put]
     | true =>
       refine seq_take (o := ⟨some 191, .pick (.tmp 187) (.tmp 190) (.const (.bool false)), 4, "ref.go:82", #[⟨6, .data⟩, ⟨9, .data⟩], none⟩) (v := .bool true) (by kernel_rfl) (fun c a w h => hQ c a w _ _ h) (Or.inl ⟨by kernel_rfl, fun W hW => by go_simp⟩) ?_
       simp only [pG,Act.put]
       refine seq_take (o := ⟨some 192, .move (.tmp 191), 4, "ref.go:82", #[⟨10, .data⟩, ⟨9, .chain⟩], none⟩) (v := .bool true) (by kernel_rfl) (fun c a w h => hQ c a w _ _ h) (Or.inl ⟨by kernel_rfl, fun W hW => by go_simp⟩) ?_
       simp only [pG,Act.put]
       refine seq_take (o := ⟨some 193, .fieldAddr 60 (.tmp 1) 4, 0, "ref.go:82", #[⟨11, .guard⟩], some (11, true)⟩) (v := .pointer (some ⟨g1, 6, none⟩)) (by kernel_rfl) (fun c a w h => hQ c a w _ _ h) (Or.inl ⟨by kernel_rfl, fun W hW => by go_simp⟩) ?_
       simp only [pG,Act.put]
       refine seq_take (o := ⟨some 194, .load 23 (.tmp 193), 23, "ref.go:82", #[⟨12, .data⟩, ⟨11, .guard⟩], some (11, true)⟩) (v := .agg #[.int .i64 u0,.int .i64 u1,.int .i64 u2]) (by kernel_rfl) (fun c a w h => hQ c a w _ _ h) (Or.inl ⟨by kernel_rfl, fun W hW => by have q0 := hW.c 6 _ rfl; have q1 := hW.c 7 _ rfl; have q2 := hW.c 8 _ rfl; go_simp⟩) ?_
       simp only [pG,Act.put]
       refine seq_call (o := ⟨some 195, .call { callee := .value (.func 20), args := #[.tmp 194], argTypes := #[23] }, 4, "ref.go:82", #[⟨13, .data⟩, ⟨11, .chain⟩, ⟨11, .guard⟩], some (11, true)⟩) (by kernel_rfl) (fun K hK => ?_)
       rw [if_pos (by kernel_rfl)]
       go_simp
       go_wp2_with (go_at_call 20; refine (refGoodId_n _ _ _ _).mono ?_; rintro e w9 ⟨rfl, h0⟩; rw [Hv2.out])
       have h9 : Below W.heap.size W w9 := by rw [h0.out]; exact alloc1 _ _
       have HD := HC.out.below h9
       clear h0 h9
       refine hK.out _ _ HD ?_
       clear hK K HC
       have HC : Hid (Tw w w9 g1 g3 #[.int .i64 k,.int .i64 i0,.int .i64 i1,.int .i64 i2,.string bu,.string ke,.int .i64 u0,.int .i64 u1,.int .i64 u2,.int .i64 b0,.int .i64 b1,.int .i64 b2,.int .i64 sz,.string et,.int .i64 pt,.slice pa pn pc,.int .i64 tm,.int .i64 dy] #[.int .i64 zk,.int .i64 zi0,.int .i64 zi1,.int .i64 zi2,.string zbu,.string zke,.int .i64 zu0,.int .i64 zu1,.int .i64 zu2,.int .i64 zb0,.int .i64 zb1,.int .i64 zb2,.int .i64 zsz,.string zet,.int .i64 zpt,.slice zpa zpn zpc,.int .i64 ztm,.int .i64 zdy]) := HD
       clear HD
       try simp only [pG,Act.put]
       cases v2 with
       | false =>
         refine seq_plain hQ _ [(some 196,.bool false), (some 197,.bool false), (some 198, undef), (some 199, undef), (some 200, undef), (some 201, undef), (some 202, undef), (some 203,.bool false), (some 204,.bool false), (some 205, undef), (some 206, undef), (some 207, undef), (some 208, undef), (some 209, undef), (some 210,.bool false), (some 211,.bool false), (some 212, undef), (some 213, undef), (some 214, undef), (some 215, undef), (some 216, undef), (some 217,.bool false), (some 218,.bool false), (some 219, undef), (some 220, undef), (some 221, undef), (some 222, undef), (some 223, undef), (some 224,.bool false), (some 225,.bool false), (some 226, undef), (some 227, undef), (some 228, undef), (some 229, undef), (some 230, undef), (some 231,.bool false), (some 232,.bool false), (some 233, undef), (some 234, undef), (some 235, undef), (some 236, undef), (some 237, undef), (some 238,.bool false), (some 239,.bool false), (some 240, undef), (some 241, undef), (some 242, undef), (some 243, undef), (some 244, undef), (some 245,.bool false), (some 246,.bool false), (some 247, undef), (some 248, undef), (some 249, undef), (some 250, undef), (some 251, undef), (some 252, undef), (some 253, undef), (some 254,.bool false), (some 2,.bool false)] _ _ (by kernel_rfl) HC.out ?_
         refine hfin.out _ _ ?_ rfl HC.out.bel
         simp [putAll, Act.put]
       | true =>
         refine seq_take (o := ⟨some 196, .pick (.tmp 192) (.tmp 195) (.const (.bool false)), 4, "ref.go:82", #[⟨11, .data⟩, ⟨14, .data⟩], none⟩) (v := .bool true) (by kernel_rfl) (fun c a w h => hQ c a w _ _ h) (Or.inl ⟨by kernel_rfl, fun W hW => by go_simp⟩) ?_
         simp only [pG,Act.put]
         refine seq_take (o := ⟨some 197, .move (.tmp 196), 4, "ref.go:82", #[⟨15, .data⟩, ⟨14, .chain⟩], none⟩) (v := .bool true) (by kernel_rfl) (fun c a w h => hQ c a w _ _ h) (Or.inl ⟨by kernel_rfl, fun W hW => by go_simp⟩) ?_
         simp only [pG,Act.put]
         refine seq_take (o := ⟨some 198, .fieldAddr 60 (.tmp 3) 2, 0, "ref.go:82", #[⟨16, .guard⟩], some (16, true)⟩) (v := .pointer (some ⟨g3, 4, none⟩)) (by kernel_rfl) (fun c a w h => hQ c a w _ _ h) (Or.inl ⟨by kernel_rfl, fun W hW => by go_simp⟩) ?_
         simp only [pG,Act.put]
         refine seq_take (o := ⟨some 199, .load 9 (.tmp 198), 9, "ref.go:82", #[⟨17, .data⟩, ⟨16, .guard⟩], some (16, true)⟩) (v := .string zbu) (by kernel_rfl) (fun c a w h => hQ c a w _ _ h) (Or.inl ⟨by kernel_rfl, fun W hW => by have q0 := hW.z 4 _ rfl; go_simp⟩) ?_
         simp only [pG,Act.put]
         refine seq_take (o := ⟨some 200, .fieldAddr 60 (.tmp 1) 2, 0, "ref.go:82", #[⟨16, .guard⟩], some (16, true)⟩) (v := .pointer (some ⟨g1, 4, none⟩)) (by kernel_rfl) (fun c a w h => hQ c a w _ _ h) (Or.inl ⟨by kernel_rfl, fun W hW => by go_simp⟩) ?_
         simp only [pG,Act.put]
         refine seq_take (o := ⟨some 201, .load 9 (.tmp 200), 9, "ref.go:82", #[⟨19, .data⟩, ⟨16, .guard⟩], some (16, true)⟩) (v := .string bu) (by kernel_rfl) (fun c a w h => hQ c a w _ _ h) (Or.inl ⟨by kernel_rfl, fun W hW => by have q0 := hW.c 4 _ rfl; go_simp⟩) ?_
         simp only [pG,Act.put]
         refine seq_take (o := ⟨some 202, .binOp .eql 9 (.tmp 199) (.tmp 201) 9, 4, "ref.go:82", #[⟨18, .data⟩, ⟨20, .data⟩, ⟨16, .guard⟩], some (16, true)⟩) (v := .bool z0) (by kernel_rfl) (fun c a w h => hQ c a w _ _ h) (Or.inl ⟨by kernel_rfl, fun W hW => by have q0 := Ez0; go_simp; try exact Dz0⟩) ?_
         simp only [pG,Act.put]
         cases z0 with
         | false =>
           refine seq_plain hQ _ [(some 203,.bool false), (some 204,.bool false), (some 205, undef), (some 206, undef), (some 207, undef), (some 208, undef), (some 209, undef), (some 210,.bool false), (some 211,.bool false), (some 212, undef), (some 213, undef), (some 214, undef), (some 215, undef), (some 216, undef), (some 217,.bool false), (some 218,.bool false), (some 219, undef), (some 220, undef), (some 221, undef), (some 222, undef), (some 223, undef), (some 224,.bool false), (some 225,.bool false), (some 226, undef), (some 227, undef), (some 228, undef), (some 229, undef), (some 230, undef), (some 231,.bool false), (some 232,.bool false), (some 233, undef), (some 234, undef), (some 235, undef), (some 236, undef), (some 237, undef), (some 238,.bool false), (some 239,.bool false), (some 240, undef), (some 241, undef), (some 242, undef), (some 243, undef), (some 244, undef), (some 245,.bool false), (some 246,.bool false), (some 247, undef), (some 248, undef), (some 249, undef), (some 250, undef), (some 251, undef), (some 252, undef), (some 253, undef), (some 254,.bool false), (some 2,.bool false)] _ _ (by kernel_rfl) HC.out ?_
           refine hfin.out _ _ ?_ rfl HC.out.bel
           simp [putAll, Act.put]
         | true =>
           refine seq_take (o := ⟨some 203, .pick (.tmp 197) (.tmp 202) (.const (.bool false)), 4, "ref.go:82", #[⟨16, .data⟩, ⟨21, .data⟩], none⟩) (v := .bool true) (by kernel_rfl) (fun c a w h => hQ c a w _ _ h) (Or.inl ⟨by kernel_rfl, fun W hW => by go_simp⟩) ?_
           simp only [pG,Act.put]
           refine seq_take (o := ⟨some 204, .move (.tmp 203), 4, "ref.go:82", #[⟨22, .data⟩, ⟨16, .chain⟩], none⟩) (v := .bool true) (by kernel_rfl) (fun c a w h => hQ c a w _ _ h) (Or.inl ⟨by kernel_rfl, fun W hW => by go_simp⟩) ?_
           simp only [pG,Act.put]
           refine seq_take (o := ⟨some 205, .fieldAddr 60 (.tmp 3) 3, 0, "ref.go:82", #[⟨23, .guard⟩], some (23, true)⟩) (v := .pointer (some ⟨g3, 5, none⟩)) (by kernel_rfl) (fun c a w h => hQ c a w _ _ h) (Or.inl ⟨by kernel_rfl, fun W hW => by go_simp⟩) ?_
           simp only [pG,Act.put]
           refine seq_take (o := ⟨some 206, .load 9 (.tmp 205), 9, "ref.go:82", #[⟨24, .data⟩, ⟨23, .guard⟩], some (23, true)⟩) (v := .string zke) (by kernel_rfl) (fun c a w h => hQ c a w _ _ h) (Or.inl ⟨by kernel_rfl, fun W hW => by have q0 := hW.z 5 _ rfl; go_simp⟩) ?_
           simp only [pG,Act.put]
           refine seq_take (o := ⟨some 207, .fieldAddr 60 (.tmp 1) 3, 0, "ref.go:82", #[⟨23, .guard⟩], some (23, true)⟩) (v := .pointer (some ⟨g1, 5, none⟩)) (by kernel_rfl) (fun c a w h => hQ c a w _ _ h) (Or.inl ⟨by kernel_rfl, fun W hW => by go_simp⟩) ?_
           simp only [pG,Act.put]
           refine seq_take (o := ⟨some 208, .load 9 (.tmp 207), 9, "ref.go:82", #[⟨26, .data⟩, ⟨23, .guard⟩], some (23, true)⟩) (v := .string ke) (by kernel_rfl) (fun c a w h => hQ c a w _ _ h) (Or.inl ⟨by kernel_rfl, fun W hW => by have q0 := hW.c 5 _ rfl; go_simp⟩) ?_
           simp only [pG,Act.put]
           refine seq_take (o := ⟨some 209, .binOp .eql 9 (.tmp 206) (.tmp 208) 9, 4, "ref.go:82", #[⟨25, .data⟩, ⟨27, .data⟩, ⟨23, .guard⟩], some (23, true)⟩) (v := .bool z1) (by kernel_rfl) (fun c a w h => hQ c a w _ _ h) (Or.inl ⟨by kernel_rfl, fun W hW => by have q0 := Ez1; go_simp; try exact Dz1⟩) ?_
           simp only [pG,Act.put]
           cases z1 with
           | false =>
             refine seq_plain hQ _ [(some 210,.bool false), (some 211,.bool false), (some 212, undef), (some 213, undef), (some 214, undef), (some 215, undef), (some 216, undef), (some 217,.bool false), (some 218,.bool false), (some 219, undef), (some 220, undef), (some 221, undef), (some 222, undef), (some 223, undef), (some 224,.bool false), (some 225,.bool false), (some 226, undef), (some 227, undef), (some 228, undef), (some 229, undef), (some 230, undef), (some 231,.bool false), (some 232,.bool false), (some 233, undef), (some 234, undef), (some 235, undef), (some 236, undef), (some 237, undef), (some 238,.bool false), (some 239,.bool false), (some 240, undef), (some 241, undef), (some 242, undef), (some 243, undef), (some 244, undef), (some 245,.bool false), (some 246,.bool false), (some 247, undef), (some 248, undef), (some 249, undef), (some 250, undef), (some 251, undef), (some 252, undef), (some 253, undef), (some 254,.bool false), (some 2,.bool false)] _ _ (by kernel_rfl) HC.out ?_
             refine hfin.out _ _ ?_ rfl HC.out.bel
             simp [putAll, Act.put]
           | true =>
             refine seq_take (o := ⟨some 210, .pick (.tmp 204) (.tmp 209) (.const (.bool false)), 4, "ref.go:82", #[⟨23, .data⟩, ⟨28, .data⟩], none⟩) (v := .bool true) (by kernel_rfl) (fun c a w h => hQ c a w _ _ h) (Or.inl ⟨by kernel_rfl, fun W hW => by go_simp⟩) ?_
             simp only [pG,Act.put]
             refine seq_take (o := ⟨some 211, .move (.tmp 210), 4, "ref.go:82", #[⟨29, .data⟩, ⟨23, .chain⟩], none⟩) (v := .bool true) (by kernel_rfl) (fun c a w h => hQ c a w _ _ h) (Or.inl ⟨by kernel_rfl, fun W hW => by go_simp⟩) ?_
             simp only [pG,Act.put]
             refine seq_take (o := ⟨some 212, .fieldAddr 60 (.tmp 3) 4, 0, "ref.go:82", #[⟨30, .guard⟩], some (30, true)⟩) (v := .pointer (some ⟨g3, 6, none⟩)) (by kernel_rfl) (fun c a w h => hQ c a w _ _ h) (Or.inl ⟨by kernel_rfl, fun W hW => by go_simp⟩) ?_
             simp only [pG,Act.put]
             refine seq_take (o := ⟨some 213, .load 23 (.tmp 212), 23, "ref.go:82", #[⟨31, .data⟩, ⟨30, .guard⟩], some (30, true)⟩) (v := .agg #[.int .i64 zu0,.int .i64 zu1,.int .i64 zu2]) (by kernel_rfl) (fun c a w h => hQ c a w _ _ h) (Or.inl ⟨by kernel_rfl, fun W hW => by have q0 := hW.z 6 _ rfl; have q1 := hW.z 7 _ rfl; have q2 := hW.z 8 _ rfl; go_simp⟩) ?_
             simp only [pG,Act.put]
             refine seq_take (o := ⟨some 214, .fieldAddr 60 (.tmp 1) 4, 0, "ref.go:82", #[⟨30, .guard⟩], some (30, true)⟩) (v := .pointer (some ⟨g1, 6, none⟩)) (by kernel_rfl) (fun c a w h => hQ c a w _ _ h) (Or.inl ⟨by kernel_rfl, fun W hW => by go_simp⟩) ?_
             simp only [pG,Act.put]
             refine seq_take (o := ⟨some 215, .load 23 (.tmp 214), 23, "ref.go:82", #[⟨33, .data⟩, ⟨30, .guard⟩], some (30, true)⟩) (v := .agg #[.int .i64 u0,.int .i64 u1,.int .i64 u2]) (by kernel_rfl) (fun c a w h => hQ c a w _ _ h) (Or.inl ⟨by kernel_rfl, fun W hW => by have q0 := hW.c 6 _ rfl; have q1 := hW.c 7 _ rfl; have q2 := hW.c 8 _ rfl; go_simp⟩) ?_
             simp only [pG,Act.put]
             refine seq_take (o := ⟨some 216, .binOp .eql 23 (.tmp 213) (.tmp 215) 23, 4, "ref.go:82", #[⟨32, .data⟩, ⟨34, .data⟩, ⟨30, .guard⟩], some (30, true)⟩) (v := .bool z2) (by kernel_rfl) (fun c a w h => hQ c a w _ _ h) (Or.inl ⟨by kernel_rfl, fun W hW => by have q0 := Ez2; go_simp⟩) ?_
             simp only [pG,Act.put]
             cases z2 with
             | false =>
               refine seq_plain hQ _ [(some 217,.bool false), (some 218,.bool false), (some 219, undef), (some 220, undef), (some 221, undef), (some 222, undef), (some 223, undef), (some 224,.bool false), (some 225,.bool false), (some 226, undef), (some 227, undef), (some 228, undef), (some 229, undef), (some 230, undef), (some 231,.bool false), (some 232,.bool false), (some 233, undef), (some 234, undef), (some 235, undef), (some 236, undef), (some 237, undef), (some 238,.bool false), (some 239,.bool false), (some 240, undef), (some 241, undef), (some 242, undef), (some 243, undef), (some 244, undef), (some 245,.bool false), (some 246,.bool false), (some 247, undef), (some 248, undef), (some 249, undef), (some 250, undef), (some 251, undef), (some 252, undef), (some 253, undef), (some 254,.bool false), (some 2,.bool false)] _ _ (by kernel_rfl) HC.out ?_
               refine hfin.out _ _ ?_ rfl HC.out.bel
               simp [putAll, Act.put]
             | true =>
               refine seq_take (o := ⟨some 217, .pick (.tmp 211) (.tmp 216) (.const (.bool false)), 4, "ref.go:82", #[⟨30, .data⟩, ⟨35, .data⟩], none⟩) (v := .bool true) (by kernel_rfl) (fun c a w h => hQ c a w _ _ h) (Or.inl ⟨by kernel_rfl, fun W hW => by go_simp⟩) ?_
               simp only [pG,Act.put]
               refine seq_take (o := ⟨some 218, .move (.tmp 217), 4, "ref.go:82", #[⟨36, .data⟩, ⟨30, .chain⟩], none⟩) (v := .bool true) (by kernel_rfl) (fun c a w h => hQ c a w _ _ h) (Or.inl ⟨by kernel_rfl, fun W hW => by go_simp⟩) ?_
               simp only [pG,Act.put]
               refine seq_take (o := ⟨some 219, .fieldAddr 60 (.tmp 3) 5, 0, "ref.go:82", #[⟨37, .guard⟩], some (37, true)⟩) (v := .pointer (some ⟨g3, 9, none⟩)) (by kernel_rfl) (fun c a w h => hQ c a w _ _ h) (Or.inl ⟨by kernel_rfl, fun W hW => by go_simp⟩) ?_
               simp only [pG,Act.put]
               refine seq_take (o := ⟨some 220, .load 58 (.tmp 219), 58, "ref.go:82", #[⟨38, .data⟩, ⟨37, .guard⟩], some (37, true)⟩) (v := .agg #[.int .i64 zb0,.int .i64 zb1,.int .i64 zb2,.int .i64 zsz,.string zet]) (by kernel_rfl) (fun c a w h => hQ c a w _ _ h) (Or.inl ⟨by kernel_rfl, fun W hW => by have q0 := hW.z 9 _ rfl; have q1 := hW.z 10 _ rfl; have q2 := hW.z 11 _ rfl; have q3 := hW.z 12 _ rfl; have q4 := hW.z 13 _ rfl; go_simp⟩) ?_
               simp only [pG,Act.put]
               refine seq_take (o := ⟨some 221, .fieldAddr 60 (.tmp 1) 5, 0, "ref.go:82", #[⟨37, .guard⟩], some (37, true)⟩) (v := .pointer (some ⟨g1, 9, none⟩)) (by kernel_rfl) (fun c a w h => hQ c a w _ _ h) (Or.inl ⟨by kernel_rfl, fun W hW => by go_simp⟩) ?_
               simp only [pG,Act.put]
               refine seq_take (o := ⟨some 222, .load 58 (.tmp 221), 58, "ref.go:82", #[⟨40, .data⟩, ⟨37, .guard⟩], some (37, true)⟩) (v := .agg #[.int .i64 b0,.int .i64 b1,.int .i64 b2,.int .i64 sz,.string et]) (by kernel_rfl) (fun c a w h => hQ c a w _ _ h) (Or.inl ⟨by kernel_rfl, fun W hW => by have q0 := hW.c 9 _ rfl; have q1 := hW.c 10 _ rfl; have q2 := hW.c 11 _ rfl; have q3 := hW.c 12 _ rfl; have q4 := hW.c 13 _ rfl; go_simp⟩) ?_
               simp only [pG,Act.put]
               refine seq_take (o := ⟨some 223, .binOp .eql 58 (.tmp 220) (.tmp 222) 58, 4, "ref.go:82", #[⟨39, .data⟩, ⟨41, .data⟩, ⟨37, .guard⟩], some (37, true)⟩) (v := .bool z3) (by kernel_rfl) (fun c a w h => hQ c a w _ _ h) (Or.inl ⟨by kernel_rfl, fun W hW => by have q0 := Ez3; go_simp⟩) ?_
               simp only [pG,Act.put]
               cases z3 with
               | false =>
                 refine seq_plain hQ _ [(some 224,.bool false), (some 225,.bool false), (some 226, undef), (some 227, undef), (some 228, undef), (some 229, undef), (some 230, undef), (some 231,.bool false), (some 232,.bool false), (some 233, undef), (some 234, undef), (some 235, undef), (some 236, undef), (some 237, undef), (some 238,.bool false), (some 239,.bool false), (some 240, undef), (some 241, undef), (some 242, undef), (some 243, undef), (some 244, undef), (some 245,.bool false), (some 246,.bool false), (some 247, undef), (some 248, undef), (some 249, undef), (some 250, undef), (some 251, undef), (some 252, undef), (some 253, undef), (some 254,.bool false), (some 2,.bool false)] _ _ (by kernel_rfl) HC.out ?_
                 refine hfin.out _ _ ?_ rfl HC.out.bel
                 simp [putAll, Act.put]
               | true =>
                 refine seq_take (o := ⟨some 224, .pick (.tmp 218) (.tmp 223) (.const (.bool false)), 4, "ref.go:82", #[⟨37, .data⟩, ⟨42, .data⟩], none⟩) (v := .bool true) (by kernel_rfl) (fun c a w h => hQ c a w _ _ h) (Or.inl ⟨by kernel_rfl, fun W hW => by go_simp⟩) ?_
                 simp only [pG,Act.put]
                 refine seq_take (o := ⟨some 225, .move (.tmp 224), 4, "ref.go:82", #[⟨43, .data⟩, ⟨37, .chain⟩], none⟩) (v := .bool true) (by kernel_rfl) (fun c a w h => hQ c a w _ _ h) (Or.inl ⟨by kernel_rfl, fun W hW => by go_simp⟩) ?_
                 simp only [pG,Act.put]
                 refine seq_take (o := ⟨some 226, .fieldAddr 60 (.tmp 3) 6, 0, "ref.go:82", #[⟨44, .guard⟩], some (44, true)⟩) (v := .pointer (some ⟨g3, 14, none⟩)) (by kernel_rfl) (fun c a w h => hQ c a w _ _ h) (Or.inl ⟨by kernel_rfl, fun W hW => by go_simp⟩) ?_
                 simp only [pG,Act.put]
                 refine seq_take (o := ⟨some 227, .load 3 (.tmp 226), 3, "ref.go:82", #[⟨45, .data⟩, ⟨44, .guard⟩], some (44, true)⟩) (v := .int .i64 zpt) (by kernel_rfl) (fun c a w h => hQ c a w _ _ h) (Or.inl ⟨by kernel_rfl, fun W hW => by have q0 := hW.z 14 _ rfl; go_simp⟩) ?_
                 simp only [pG,Act.put]
                 refine seq_take (o := ⟨some 228, .fieldAddr 60 (.tmp 1) 6, 0, "ref.go:82", #[⟨44, .guard⟩], some (44, true)⟩) (v := .pointer (some ⟨g1, 14, none⟩)) (by kernel_rfl) (fun c a w h => hQ c a w _ _ h) (Or.inl ⟨by kernel_rfl, fun W hW => by go_simp⟩) ?_
                 simp only [pG,Act.put]
                 refine seq_take (o := ⟨some 229, .load 3 (.tmp 228), 3, "ref.go:82", #[⟨47, .data⟩, ⟨44, .guard⟩], some (44, true)⟩) (v := .int .i64 pt) (by kernel_rfl) (fun c a w h => hQ c a w _ _ h) (Or.inl ⟨by kernel_rfl, fun W hW => by have q0 := hW.c 14 _ rfl; go_simp⟩) ?_
                 simp only [pG,Act.put]
                 refine seq_take (o := ⟨some 230, .binOp .eql 3 (.tmp 227) (.tmp 229) 3, 4, "ref.go:82", #[⟨46, .data⟩, ⟨48, .data⟩, ⟨44, .guard⟩], some (44, true)⟩) (v := .bool z4) (by kernel_rfl) (fun c a w h => hQ c a w _ _ h) (Or.inl ⟨by kernel_rfl, fun W hW => by go_simp; try (first | exact Dz4 | exact Dz4')⟩) ?_
                 simp only [pG,Act.put]
                 cases z4 with
                 | false =>
                   refine seq_plain hQ _ [(some 231,.bool false), (some 232,.bool false), (some 233, undef), (some 234, undef), (some 235, undef), (some 236, undef), (some 237, undef), (some 238,.bool false), (some 239,.bool false), (some 240, undef), (some 241, undef), (some 242, undef), (some 243, undef), (some 244, undef), (some 245,.bool false), (some 246,.bool false), (some 247, undef), (some 248, undef), (some 249, undef), (some 250, undef), (some 251, undef), (some 252, undef), (some 253, undef), (some 254,.bool false), (some 2,.bool false)] _ _ (by kernel_rfl) HC.out ?_
                   refine hfin.out _ _ ?_ rfl HC.out.bel
                   simp [putAll, Act.put]
                 | true =>
                   refine seq_take (o := ⟨some 231, .pick (.tmp 225) (.tmp 230) (.const (.bool false)), 4, "ref.go:82", #[⟨44, .data⟩, ⟨49, .data⟩], none⟩) (v := .bool true) (by kernel_rfl) (fun c a w h => hQ c a w _ _ h) (Or.inl ⟨by kernel_rfl, fun W hW => by go_simp⟩) ?_
                   simp only [pG,Act.put]
                   refine seq_take (o := ⟨some 232, .move (.tmp 231), 4, "ref.go:82", #[⟨50, .data⟩, ⟨44, .chain⟩], none⟩) (v := .bool true) (by kernel_rfl) (fun c a w h => hQ c a w _ _ h) (Or.inl ⟨by kernel_rfl, fun W hW => by go_simp⟩) ?_
                   simp only [pG,Act.put]
                   refine seq_take (o := ⟨some 233, .fieldAddr 60 (.tmp 3) 8, 0, "ref.go:82", #[⟨51, .guard⟩], some (51, true)⟩) (v := .pointer (some ⟨g3, 16, none⟩)) (by kernel_rfl) (fun c a w h => hQ c a w _ _ h) (Or.inl ⟨by kernel_rfl, fun W hW => by go_simp⟩) ?_
                   simp only [pG,Act.put]
                   refine seq_take (o := ⟨some 234, .load 3 (.tmp 233), 3, "ref.go:82", #[⟨52, .data⟩, ⟨51, .guard⟩], some (51, true)⟩) (v := .int .i64 ztm) (by kernel_rfl) (fun c a w h => hQ c a w _ _ h) (Or.inl ⟨by kernel_rfl, fun W hW => by have q0 := hW.z 16 _ rfl; go_simp⟩) ?_
                   simp only [pG,Act.put]
                   refine seq_take (o := ⟨some 235, .fieldAddr 60 (.tmp 1) 8, 0, "ref.go:82", #[⟨51, .guard⟩], some (51, true)⟩) (v := .pointer (some ⟨g1, 16, none⟩)) (by kernel_rfl) (fun c a w h => hQ c a w _ _ h) (Or.inl ⟨by kernel_rfl, fun W hW => by go_simp⟩) ?_
                   simp only [pG,Act.put]
                   refine seq_take (o := ⟨some 236, .load 3 (.tmp 235), 3, "ref.go:82", #[⟨54, .data⟩, ⟨51, .guard⟩], some (51, true)⟩) (v := .int .i64 tm) (by kernel_rfl) (fun c a w h => hQ c a w _ _ h) (Or.inl ⟨by kernel_rfl, fun W hW => by have q0 := hW.c 16 _ rfl; go_simp⟩) ?_
                   simp only [pG,Act.put]
                   refine seq_take (o := ⟨some 237, .binOp .eql 3 (.tmp 234) (.tmp 236) 3, 4, "ref.go:82", #[⟨53, .data⟩, ⟨55, .data⟩, ⟨51, .guard⟩], some (51, true)⟩) (v := .bool z5) (by kernel_rfl) (fun c a w h => hQ c a w _ _ h) (Or.inl ⟨by kernel_rfl, fun W hW => by go_simp; try (first | exact Dz5 | exact Dz5')⟩) ?_
                   simp only [pG,Act.put]
                   cases z5 with
                   | false =>
                     refine seq_plain hQ _ [(some 238,.bool false), (some 239,.bool false), (some 240, undef), (some 241, undef), (some 242, undef), (some 243, undef), (some 244, undef), (some 245,.bool false), (some 246,.bool false), (some 247, undef), (some 248, undef), (some 249, undef), (some 250, undef), (some 251, undef), (some 252, undef), (some 253, undef), (some 254,.bool false), (some 2,.bool false)] _ _ (by kernel_rfl) HC.out ?_
                     refine hfin.out _ _ ?_ rfl HC.out.bel
                     simp [putAll, Act.put]
                   | true =>
                     refine seq_take (o := ⟨some 238, .pick (.tmp 232) (.tmp 237) (.const (.bool false)), 4, "ref.go:82", #[⟨51, .data⟩, ⟨56, .data⟩], none⟩) (v := .bool true) (by kernel_rfl) (fun c a w h => hQ c a w _ _ h) (Or.inl ⟨by kernel_rfl, fun W hW => by go_simp⟩) ?_
                     simp only [pG,Act.put]
                     refine seq_take (o := ⟨some 239, .move (.tmp 238), 4, "ref.go:82", #[⟨57, .data⟩, ⟨51, .chain⟩], none⟩) (v := .bool true) (by kernel_rfl) (fun c a w h => hQ c a w _ _ h) (Or.inl ⟨by kernel_rfl, fun W hW => by go_simp⟩) ?_
                     simp only [pG,Act.put]
                     refine seq_take (o := ⟨some 240, .fieldAddr 60 (.tmp 3) 9, 0, "ref.go:82", #[⟨58, .guard⟩], some (58, true)⟩) (v := .pointer (some ⟨g3, 17, none⟩)) (by kernel_rfl) (fun c a w h => hQ c a w _ _ h) (Or.inl ⟨by kernel_rfl, fun W hW => by go_simp⟩) ?_
                     simp only [pG,Act.put]
                     refine seq_take (o := ⟨some 241, .load 3 (.tmp 240), 3, "ref.go:82", #[⟨59, .data⟩, ⟨58, .guard⟩], some (58, true)⟩) (v := .int .i64 zdy) (by kernel_rfl) (fun c a w h => hQ c a w _ _ h) (Or.inl ⟨by kernel_rfl, fun W hW => by have q0 := hW.z 17 _ rfl; go_simp⟩) ?_
                     simp only [pG,Act.put]
                     refine seq_take (o := ⟨some 242, .fieldAddr 60 (.tmp 1) 9, 0, "ref.go:82", #[⟨58, .guard⟩], some (58, true)⟩) (v := .pointer (some ⟨g1, 17, none⟩)) (by kernel_rfl) (fun c a w h => hQ c a w _ _ h) (Or.inl ⟨by kernel_rfl, fun W hW => by go_simp⟩) ?_
                     simp only [pG,Act.put]
                     refine seq_take (o := ⟨some 243, .load 3 (.tmp 242), 3, "ref.go:82", #[⟨61, .data⟩, ⟨58, .guard⟩], some (58, true)⟩) (v := .int .i64 dy) (by kernel_rfl) (fun c a w h => hQ c a w _ _ h) (Or.inl ⟨by kernel_rfl, fun W hW => by have q0 := hW.c 17 _ rfl; go_simp⟩) ?_
                     simp only [pG,Act.put]
                     refine seq_take (o := ⟨some 244, .binOp .eql 3 (.tmp 241) (.tmp 243) 3, 4, "ref.go:82", #[⟨60, .data⟩, ⟨62, .data⟩, ⟨58, .guard⟩], some (58, true)⟩) (v := .bool z6) (by kernel_rfl) (fun c a w h => hQ c a w _ _ h) (Or.inl ⟨by kernel_rfl, fun W hW => by go_simp; try (first | exact Dz6 | exact Dz6')⟩) ?_
                     simp only [pG,Act.put]
                     cases z6 with
                     | false =>
                       refine seq_plain hQ _ [(some 245,.bool false), (some 246,.bool false), (some 247, undef), (some 248, undef), (some 249, undef), (some 250, undef), (some 251, undef), (some 252, undef), (some 253, undef), (some 254,.bool false), (some 2,.bool false)] _ _ (by kernel_rfl) HC.out ?_
                       refine hfin.out _ _ ?_ rfl HC.out.bel
                       simp [putAll, Act.put]
                     | true =>
                       refine seq_take (o := ⟨some 245, .pick (.tmp 239) (.tmp 244) (.const (.bool false)), 4, "ref.go:82", #[⟨58, .data⟩, ⟨63, .data⟩], none⟩) (v := .bool true) (by kernel_rfl) (fun c a w h => hQ c a w _ _ h) (Or.inl ⟨by kernel_rfl, fun W hW => by go_simp⟩) ?_
                       simp only [pG,Act.put]
                       refine seq_take (o := ⟨some 246, .move (.tmp 245), 4, "ref.go:82", #[⟨64, .data⟩, ⟨58, .chain⟩], none⟩) (v := .bool true) (by kernel_rfl) (fun c a w h => hQ c a w _ _ h) (Or.inl ⟨by kernel_rfl, fun W hW => by go_simp⟩) ?_
                       simp only [pG,Act.put]
                       refine seq_take (o := ⟨some 247, .fieldAddr 60 (.tmp 3) 7, 0, "ref.go:82", #[⟨65, .guard⟩], some (65, true)⟩) (v := .pointer (some ⟨g3, 15, none⟩)) (by kernel_rfl) (fun c a w h => hQ c a w _ _ h) (Or.inl ⟨by kernel_rfl, fun W hW => by go_simp⟩) ?_
                       simp only [pG,Act.put]
                       refine seq_take (o := ⟨some 248, .load 55 (.tmp 247), 55, "ref.go:82", #[⟨66, .data⟩, ⟨65, .guard⟩], some (65, true)⟩) (v := .slice zpa zpn zpc) (by kernel_rfl) (fun c a w h => hQ c a w _ _ h) (Or.inl ⟨by kernel_rfl, fun W hW => by have q0 := hW.z 15 _ rfl; go_simp⟩) ?_
                       simp only [pG,Act.put]
                       refine seq_take (o := ⟨some 249, .call { callee := .builtin .len, args := #[.tmp 248], argTypes := #[55] }, 3, "ref.go:82", #[⟨67, .data⟩, ⟨65, .guard⟩], some (65, true)⟩) (v := .int .i64 (zpn : Int)) (by kernel_rfl) (fun c a w h => hQ c a w _ _ h) (Or.inl ⟨by kernel_rfl, fun W hW => by go_simp⟩) ?_
                       simp only [pG,Act.put]
                       refine seq_take (o := ⟨some 250, .fieldAddr 60 (.tmp 1) 7, 0, "ref.go:82", #[⟨65, .guard⟩], some (65, true)⟩) (v := .pointer (some ⟨g1, 15, none⟩)) (by kernel_rfl) (fun c a w h => hQ c a w _ _ h) (Or.inl ⟨by kernel_rfl, fun W hW => by go_simp⟩) ?_
                       simp only [pG,Act.put]
                       refine seq_take (o := ⟨some 251, .load 55 (.tmp 250), 55, "ref.go:82", #[⟨69, .data⟩, ⟨65, .guard⟩], some (65, true)⟩) (v := .slice pa pn pc) (by kernel_rfl) (fun c a w h => hQ c a w _ _ h) (Or.inl ⟨by kernel_rfl, fun W hW => by have q0 := hW.c 15 _ rfl; go_simp⟩) ?_
                       simp only [pG,Act.put]
                       refine seq_take (o := ⟨some 252, .call { callee := .builtin .len, args := #[.tmp 251], argTypes := #[55] }, 3, "ref.go:82", #[⟨70, .data⟩, ⟨65, .guard⟩], some (65, true)⟩) (v := .int .i64 (pn : Int)) (by kernel_rfl) (fun c a w h => hQ c a w _ _ h) (Or.inl ⟨by kernel_rfl, fun W hW => by go_simp⟩) ?_
                       simp only [pG,Act.put]
                       refine seq_take (o := ⟨some 253, .binOp .eql 3 (.tmp 249) (.tmp 252) 3, 4, "ref.go:82", #[⟨68, .data⟩, ⟨71, .data⟩, ⟨65, .guard⟩], some (65, true)⟩) (v := .bool z7) (by kernel_rfl) (fun c a w h => hQ c a w _ _ h) (Or.inl ⟨by kernel_rfl, fun W hW => by go_simp; try (first | exact Dz7 | exact Dz7' | exact Dz7b)⟩) ?_
                       simp only [pG,Act.put]
                       refine seq_take (o := ⟨some 254, .pick (.tmp 246) (.tmp 253) (.const (.bool false)), 4, "ref.go:82", #[⟨65, .data⟩, ⟨72, .data⟩], none⟩) (v := .bool z7) (by kernel_rfl) (fun c a w h => hQ c a w _ _ h) (Or.inl ⟨by kernel_rfl, fun W hW => by go_simp⟩) ?_
                       simp only [pG,Act.put]
                       refine seq_take (o := ⟨some 2, .assign (.tmp 254), 4, "ref.go:82", ([⟨73, .data⟩, ⟨65, .chain⟩, ⟨0, .phase⟩, ⟨1, .phase⟩, ⟨2, .phase⟩, ⟨3, .phase⟩, ⟨4, .phase⟩, ⟨5, .phase⟩, ⟨6, .phase⟩, ⟨7, .phase⟩, ⟨8, .phase⟩, ⟨9, .phase⟩, ⟨10, .phase⟩, ⟨11, .phase⟩, ⟨12, .phase⟩, ⟨13, .phase⟩, ⟨14, .phase⟩, ⟨15, .phase⟩, ⟨16, .phase⟩, ⟨17, .phase⟩, ⟨18, .phase⟩, ⟨19, .phase⟩, ⟨20, .phase⟩, ⟨21, .phase⟩, ⟨22, .phase⟩, ⟨23, .phase⟩, ⟨24, .phase⟩, ⟨25, .phase⟩, ⟨26, .phase⟩, ⟨27, .phase⟩, ⟨28, .phase⟩, ⟨29, .phase⟩, ⟨30, .phase⟩, ⟨31, .phase⟩, ⟨32, .phase⟩, ⟨33, .phase⟩, ⟨34, .phase⟩, ⟨35, .phase⟩].append [⟨36, .phase⟩, ⟨37, .phase⟩, ⟨38, .phase⟩, ⟨39, .phase⟩, ⟨40, .phase⟩, ⟨41, .phase⟩, ⟨42, .phase⟩, ⟨43, .phase⟩, ⟨44, .phase⟩, ⟨45, .phase⟩, ⟨46, .phase⟩, ⟨47, .phase⟩, ⟨48, .phase⟩, ⟨49, .phase⟩, ⟨50, .phase⟩, ⟨51, .phase⟩, ⟨52, .phase⟩, ⟨53, .phase⟩, ⟨54, .phase⟩, ⟨55, .phase⟩, ⟨56, .phase⟩, ⟨57, .phase⟩, ⟨58, .phase⟩, ⟨59, .phase⟩, ⟨60, .phase⟩, ⟨61, .phase⟩, ⟨62, .phase⟩, ⟨63, .phase⟩, ⟨64, .phase⟩, ⟨65, .phase⟩, ⟨66, .phase⟩, ⟨67, .phase⟩, ⟨68, .phase⟩, ⟨69, .phase⟩, ⟨70, .phase⟩, ⟨71, .phase⟩, ⟨72, .phase⟩, ⟨73, .phase⟩]).toArray, none⟩) (v := .bool z7) (by kernel_rfl) (fun c a w h => hQ c a w _ _ h) (Or.inl ⟨by kernel_rfl, fun W hW => by go_simp⟩) ?_
                       simp only [pG,Act.put]
                       show Q .normal _ _
                       refine hfin.out _ _ ?_ rfl HC.out.bel
                       simp
end Go.Proofs.YtppibcambhmomaaDoor
