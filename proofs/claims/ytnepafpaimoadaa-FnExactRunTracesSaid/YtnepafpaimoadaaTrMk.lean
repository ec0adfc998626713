/-
  A list of traces of one's own, and its marking.
-/
import Derived.Test.YtnepafpaimoadaaTrTo
import Derived.Test.YtnepafpaimoadaaTrcE
namespace Go.Proofs.Ytnepafpaimoadaa
open Go.ChangeShapes Go.WideShapes Go.ChangeAt Go.RowKit Go.Sort
structure TrsNew (w : World) (G : Nat) (l : List Tr) : Prop where
  at0 : TrAt w G 0 l
  room : RoomTr w G (l.length * 3)
  lt : G < w.heap.size
theorem TrsNew.keep {w w' : World} {G : Nat} {l : List Tr} (h : TrsNew w G l) (hb : Below w.heap.size w w') : TrsNew w' G l := ⟨h.at0.keep hb, h.room.keep hb, Nat.lt_of_lt_of_le h.lt hb.size⟩
theorem TrsNew.in {w : World} {G : Nat} {l : List Tr} (h : TrsNew w G l) : TrIn w (some ⟨G, 0, none⟩) l := .inr ⟨G, 0, rfl, h.at0⟩
theorem toTrs_new (w : World) (a : Option Addr) (cap : Nat) (l : List Tr) (hl : l.length ≤ 1048576) (hi : TrIn w a l) :
    Calls Try.prog 44 #[.slice a l.length cap] w fun e w' => (∃ G, e = .returned (.slice (some ⟨G, 0, none⟩) l.length l.length) ∧ TrsNew w' G l ∧ w.heap.size ≤ G) ∧ Below w.heap.size w w' :=
  (toTrS_any w a cap l hl hi).mono fun _ _ ⟨h1, h2, h3, h4, h5⟩ => ⟨⟨w.heap.size, h1, ⟨h2, h3, h4⟩, Nat.le_refl _⟩, h5⟩
set_option maxHeartbeats 4000000 in
theorem markTr_any (w : World) (G n cap c0 : Nat) (hc0 : c0 ≤ 1000000) (hl : n ≤ 1048576) (h : RoomTr w G (n * 3)) :
    Calls Try.prog 47 #[.slice (some ⟨G, 0, none⟩) n cap, .int .i64 (c0 : Int)] w fun e w' => e = .returned (.int .i64 ((c0 + n * 3 : Nat) : Int)) ∧ w.grownBy w' (some G) := by
  have HST : Hid (RoomTr w G (n * 3)) := h
  clear h
  go_enter Try.func47, Try.ntmps47
  go_wp2_with fail
  go_loopw [1, 5] (fun x y wr => ∃ i : Nat, i ≤ n ∧ y = .int .i64 (i : Int) ∧ x = .int .i64 ((c0 + i * 3 : Nat) : Int) ∧ RoomTr wr G (n * 3) ∧ w.grownBy wr (some G)) (fun _ y _ => n - (intOf y).toNat)
  case atStart => exact ⟨0, Nat.zero_le _, rfl, by simp, HST.out, gbOf (Below.refl _ _)⟩
  case round =>
    obtain ⟨i, hi, rfl, rfl, hro, hone⟩ := hrel
    clear HST
    have HR : Hid (RoomTr wr G (n * 3)) := hro
    have HO : Hid (w.grownBy wr (some G)) := hone
    clear hro hone
    by_cases hlt : i < n
    · obtain ⟨c, hc⟩ : ∃ c, c0 + i * 3 = c := ⟨_, rfl⟩
      have hcb : c ≤ 10000003145728 := by omega
      rw [hc]
      have HC : Hid (c0 + (i + 1) * 3 = c + 3) := by show _ = _; omega
      have gk : (i : Int) < n := by omega
      have gk0 : (0 : Int) ≤ i := by omega
      obtain ⟨⟨u0, p0⟩, f0⟩ := HR.out (i * 3) (by omega)
      obtain ⟨⟨u1, p1⟩, f1⟩ := HR.out (i * 3 + 1) (by omega)
      obtain ⟨⟨u2, p2⟩, f2⟩ := HR.out (i * 3 + 2) (by omega)
      have w0 : IntKind.i64.wrap ((c : Int) + 1) = (c : Int) + 1 := by rw [IntKind.wrap_i64]; omega
      have w1 : IntKind.i64.wrap ((c : Int) + 1 + 1) = (c : Int) + 1 + 1 := by rw [IntKind.wrap_i64]; omega
      have w2 : IntKind.i64.wrap ((c : Int) + 1 + 1 + 1) = (c : Int) + 1 + 1 + 1 := by rw [IntKind.wrap_i64]; omega
      clear hc
      go_wp2_with fail
      go_roundw
      case rel => exact ⟨i + 1, by omega, by go_num, by rw [HC.out]; go_num, ((HR.out.set _ _).set _ _).set _ _, gbTrans (gbTrans (gbTrans HO.out (gbSet _ _ _ _)) (gbSet _ _ _ _)) (gbSet _ _ _ _)⟩
      case measure => simp [intOf]; omega
    · have ei : i = n := by omega
      subst ei
      go_wp2_with fail
      go_ret
      exact ⟨rfl, HO.out⟩
end Go.Proofs.Ytnepafpaimoadaa
