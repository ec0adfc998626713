/-
  Two digits, on the model's side.
-/
import Derived.Test.YtibomkcbopkpkaaDoorDateText
namespace Go.Proofs.YtibomkcbopkpkaaDoor
open Go.ChangeShapes Go.WideShapes Go.ChangeAt Go.RowKit
theorem dg_nat {x : Int} (h0 : 0 ≤ x) (h1 : x < 10) : ((dg x).toNat : Int) = 48 + x := by
  unfold dg
  rw [UInt8.toNat_ofNat_of_lt' (by show 48 + x.toNat < 256; omega)]
  omega
theorem two_bytes (a b : Int) (x y : UInt8) (hx : (x.toNat : Int) = a) (hy : (y.toNat : Int) = b) (W : World) (B cap : Nat) (h0 : W.cell? ⟨B, 0, none⟩ = some (.int .u8 a)) (h1 : W.cell? ⟨B, 1, none⟩ = some (.int .u8 b)) :
    (convert 22 9 (.slice (some ⟨B, 0, none⟩) 2 cap)).run Tryd.prog W = .ok (.string ⟨#[x, y]⟩) W := by
  have := run_convert_bytes_back (P := Tryd.prog) W 22 9 5 ⟨B, 0, none⟩ cap [x, y] Tryd.underlying22 Tryd.underlying5 Tryd.underlying9 (fun j hj => by
    have hj2 : j = 0 ∨ j = 1 := by simp at hj; omega
    rcases hj2 with rfl | rfl
    · simp [Addr.add, h0, hx]
    · simp [Addr.add, h1, hy])
  simpa using this
set_option maxHeartbeats 1000000 in
theorem l3Two_any (n : Int) (h0 : 0 ≤ n) (h1 : n ≤ 9999) (w : World) :
    Calls Tryd.prog 154 #[.int .i64 n] w fun e w' => e = .returned (.string (two n)) ∧ Below w.heap.size w w' := by
  have hcv := two_bytes (48 + n / 10 % 10) (48 + n % 10) (dg (n / 10 % 10)) (dg (n % 10)) (dg_nat (by omega) (by omega)) (dg_nat (by omega) (by omega))
  have HT : Hid ((⟨#[dg (n / 10 % 10), dg (n % 10)]⟩ : ByteArray) = two n) := rfl
  generalize (⟨#[dg (n / 10 % 10), dg (n % 10)]⟩ : ByteArray) = r at *
  have e1 : IntKind.u8.wrap (48 + n / 10 % 10) = 48 + n / 10 % 10 := by rw [IntKind.wrap_u8]; omega
  have e2 : IntKind.u8.wrap (48 + n % 10) = 48 + n % 10 := by rw [IntKind.wrap_u8]; omega
  go_enter Tryd.func154, Tryd.ntmps154
  go_wp2_with fail
  go_ret
  exact ⟨ret_str HT.out, (Below.refl _ _).alloc (Nat.le_refl _) _⟩
theorem add_step (a b : ByteArray) (h : a.size + b.size ≤ 1000) : ∃ c, Hid (c = a ++ b) ∧ c.size = a.size + b.size ∧ ∀ w, (Op.stringOp .add a b).run Tryd.prog w = .ok (.string c) w :=
  ⟨a ++ b, rfl, ByteArray.size_append, fun w => run_string_add_sum (P := Tryd.prog) (w := w) a b (by omega)⟩
end Go.Proofs.YtibomkcbopkpkaaDoor
