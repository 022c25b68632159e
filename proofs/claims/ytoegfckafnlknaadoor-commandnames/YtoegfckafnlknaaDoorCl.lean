/- The laws' own 'alive' answers true. -/
import Derived.Test.YtoegfckafnlknaaDoorCk
namespace Go.Proofs.YtoegfckafnlknaaDoor
open Go.ChangeShapes Go.WideShapes Go.ChangeAt Go.RowKit
set_option maxRecDepth 20000
set_option linter.unusedVariables false
set_option linter.unusedSimpArgs false
theorem bl_nil : bl ⟨#[]⟩ = [] := rfl
theorem cmd18 : cmdL 11 1 2 3 ⟨#[]⟩ ⟨#[]⟩ 0 0 0 0 0 0 0 ⟨#[]⟩ 0 [] 0 0 = [11, 1, 2, 3, 0, 0, 0, 0, 0, 0, 0, 0, 0, 0, 0, 0, 0, 0] := by
  have e : ByteArray.size ⟨#[]⟩ = 0 := rfl
  unfold cmdL
  rw [e, bl_nil, enc_lt (n := 11) (by omega), enc_lt (n := 1) (by omega), enc_lt (n := 2) (by omega), enc_lt (n := 3) (by omega), enc_lt (n := 0) (by omega)]
  simp [encs, enc_lt]
theorem frm18 : frm ⟨((11 : Nat) : Int), ((1 : Nat) : Int), ((2 : Nat) : Int), ((3 : Nat) : Int), ⟨#[]⟩, ⟨#[]⟩, ((0 : Nat) : Int), ((0 : Nat) : Int), ((0 : Nat) : Int), ((0 : Nat) : Int), ((0 : Nat) : Int), ((0 : Nat) : Int), ((0 : Nat) : Int), ⟨#[]⟩, ((0 : Nat) : Int), ([] : List Nat).map fun x : Nat => (x : Int), ((0 : Nat) : Int), ((0 : Nat) : Int)⟩ = true := by decide +kernel
theorem sp4 : spell [11, 1, 2, 3] = ⟨#[11, 1, 2, 3]⟩ := by decide
theorem ab1 : gdN ⟨#[97, 46, 98]⟩ = true := by decide +kernel
theorem ab2 : gdN ⟨#[45, 97, 98]⟩ = false := by decide +kernel
set_option maxHeartbeats 2000000 in
theorem alive_n (w : World) : Calls Tryd.prog 9 #[] w fun e w' => e = .returned (.bool true) ∧ Hid (Below w.heap.size w w') := by
  have PO : Hid (Calls Tryd.prog 12 #[.agg #[.int .i64 11, .int .i64 1, .int .i64 2, .int .i64 3, .string ⟨#[]⟩, .string ⟨#[]⟩, .int .i64 0, .int .i64 0, .int .i64 0, .int .i64 0, .int .i64 0, .int .i64 0, .int .i64 0, .string ⟨#[]⟩, .int .i64 0, .slice none 0 0, .int .i64 0, .int .i64 0]] w fun e w' => ∃ a n c, e = .returned (.tuple #[.slice a n c, .nilIface]) ∧ Hid (Own w' w.heap.size a n c [11, 1, 2, 3, 0, 0, 0, 0, 0, 0, 0, 0, 0, 0, 0, 0, 0, 0] ∧ Below w.heap.size w w')) := by
    have h := put_ok (w := w) (K := 11) (I0 := 1) (I1 := 2) (I2 := 3) (U0 := 0) (U1 := 0) (U2 := 0) (B0 := 0) (B1 := 0) (B2 := 0) (SZ := 0) (PT := 0) (TM := 0) (DY := 0) (bu := ⟨#[]⟩) (ke := ⟨#[]⟩) (et := ⟨#[]⟩) (PS := []) (pa := none) (pn := 0) (pc := 0) ⟨rfl, by omega, .inl rfl⟩ (by omega) (by omega) (by omega) (by omega) (by omega) (by omega) (by omega) (by omega) (by omega) (by omega) (by omega) (by omega) (by omega) (by omega) (by show (0 : Nat) ≤ 1000; omega) (by show (0 : Nat) ≤ 1000; omega) (by show (0 : Nat) ≤ 1000; omega) (by omega) (fun x hx => by cases hx) frm18
    rw [cmd18] at h
    exact h
  go_enter Tryd.func9, Tryd.ntmps9
  go_upto_region 2 with (go_at_call 12; refine PO.out.mono ?_; rintro e w1 ⟨a, n, c, rfl, H1⟩)
  obtain rfl : n = 18 := H1.out.1.len
  have S1 : Hid (Sln w1 a 18 [11, 1, 2, 3, 0, 0, 0, 0, 0, 0, 0, 0, 0, 0, 0, 0, 0, 0]) := H1.out.1.sln (by omega)
  have S4 : Hid (Sln w1 a 4 [11, 1, 2, 3]) := S1.out.take (k := 4) (by omega)
  obtain ⟨b, off, rfl⟩ : ∃ b off, a = some ⟨b, off, none⟩ := by
    obtain ⟨b, o, h1, _⟩ := S4.out.sli.2.2.resolve_left (by simp)
    exact ⟨b, o, h1⟩
  have hcap : 18 ≤ c := H1.out.1.cap
  have cv : (convert 35 9 (.slice (some ⟨b, off, none⟩) 4 c)).run Tryd.prog w1 = .ok (.string ⟨#[11, 1, 2, 3]⟩) w1 := by rw [← sp4]; exact conv_n S4
  have B1 : Hid (Below w.heap.size w w1) := H1.out.2
  clear H1 S1 S4 PO
  go_wp2_with (go_at_call 26; refine (goodBucket_n _ _).mono ?_; rintro e w0 ⟨rfl, h0⟩; rw [h0]; (first | rw [ab1] | rw [ab2]); clear h0)
  go_ret
  exact ⟨rfl, B1.out⟩
end Go.Proofs.YtoegfckafnlknaaDoor
