/-
  Texts of one claim, one behind the other.
-/
import Derived.BigQuiet
import Derived.ChangeArms
import Derived.Deep.RegionWith
import Derived.Deep.Slices
import Derived.Deep.Strs
import Derived.JoinedCond
import Derived.Laws.Closers25b
import Derived.Lib.QuietBelow
import Derived.MakeChecks
import Derived.ProofKit
import Derived.Test.YthiiaefdobpjhaaGreatDoorRows
import Derived.Test.YthiiaefdobpjhaaGreatDoorMgC
/-
  An event as an argument of laws.
-/
namespace Go.Proofs.YthiiaefdobpjhaaGreatDoor
open Go.ChangeShapes Go.WideShapes Go.ChangeAt Go.RowKit Go.Sort
theorem sizeEvent : (Tryz.prog.info? 38).map (·.size) = some 12 := by kernel_rfl
set_option maxRecDepth 100000 in
set_option maxHeartbeats 8000000 in
theorem to_Event (w : World) (kd ei dr : Int) (qm qh qp : ByteArray) (qa : Option Addr) (qc : Nat) (ql : List Hdr) (rs : Int) (pa : Option Addr) (pc : Nat) (pb : Option Addr) (bc : Nat) (pl : List Hdr) (bl : List UInt8) (tx : ByteArray) (hd : Bool) (CQ : Nat → Nat → Nat → World → Prop) (CP : Nat → Nat → Nat → Nat → World → Prop) (H0 : Hid (∀ X, Below w.heap.size w X → Calls Tryz.prog 16 #[.agg #[.string qm, .string qh, .string qp, .slice qa ql.length qc]] X fun e w' => (∃ (K : Nat), e = .returned (.agg #[.string qm, .string qh, .string qp, .slice (some ⟨K, 0, none⟩) ql.length ql.length]) ∧ At X.heap.size w'.heap.size (CQ K) w') ∧ Below X.heap.size X w'))
    (H1 : Hid (∀ X, Below w.heap.size w X → Calls Tryz.prog 17 #[.agg #[.int .i64 rs, .slice pa pl.length pc, .slice pb bl.length bc]] X fun e w' => (∃ (G : Nat) (D : Nat), e = .returned (.agg #[.int .i64 rs, .slice (some ⟨G, 0, none⟩) pl.length pl.length, .slice (some ⟨D, 0, none⟩) bl.length bl.length]) ∧ At X.heap.size w'.heap.size (CP G D) w') ∧ Below X.heap.size X w')) :
    Calls Tryz.prog 6 #[.agg #[.int .i64 kd, .int .i64 ei, .int .i64 dr, .string qm, .string qh, .string qp, .slice qa ql.length qc, .int .i64 rs, .slice pa pl.length pc, .slice pb bl.length bc, .string tx, .bool hd]] w fun e w' => (∃ (K : Nat) (G : Nat) (D : Nat), e = .returned (.agg #[.int .i64 kd, .int .i64 ei, .int .i64 dr, .string qm, .string qh, .string qp, .slice (some ⟨K, 0, none⟩) ql.length ql.length, .int .i64 rs, .slice (some ⟨G, 0, none⟩) pl.length pl.length, .slice (some ⟨D, 0, none⟩) bl.length bl.length, .string tx, .bool hd]) ∧ At w.heap.size w'.heap.size (Bef (CQ K) (Wide (CP G D))) w') ∧ Below w.heap.size w w' := by
  obtain ⟨W, hW⟩ : ∃ W, W = ((w.alloc (.cells #[.int .i64 kd, .int .i64 ei, .int .i64 dr, .string qm, .string qh, .string qp, .slice qa ql.length qc, .int .i64 rs, .slice pa pl.length pc, .slice pb bl.length bc, .string tx, .bool hd] 29)).alloc (.cells #[.int .i64 0, .int .i64 0, .int .i64 0, .string ⟨#[]⟩, .string ⟨#[]⟩, .string ⟨#[]⟩, .slice none 0 0, .int .i64 0, .slice none 0 0, .slice none 0 0, .string ⟨#[]⟩, .bool false] 38)).alloc (.cells #[.int .i64 kd, .int .i64 ei, .int .i64 dr, .string ⟨#[]⟩, .string ⟨#[]⟩, .string ⟨#[]⟩, .slice none 0 0, .int .i64 0, .slice none 0 0, .slice none 0 0, .string ⟨#[]⟩, .bool false] 38) := ⟨_, rfl⟩
  have HW : Hid (W = ((w.alloc (.cells #[.int .i64 kd, .int .i64 ei, .int .i64 dr, .string qm, .string qh, .string qp, .slice qa ql.length qc, .int .i64 rs, .slice pa pl.length pc, .slice pb bl.length bc, .string tx, .bool hd] 29)).alloc (.cells #[.int .i64 0, .int .i64 0, .int .i64 0, .string ⟨#[]⟩, .string ⟨#[]⟩, .string ⟨#[]⟩, .slice none 0 0, .int .i64 0, .slice none 0 0, .slice none 0 0, .string ⟨#[]⟩, .bool false] 38)).alloc (.cells #[.int .i64 kd, .int .i64 ei, .int .i64 dr, .string ⟨#[]⟩, .string ⟨#[]⟩, .string ⟨#[]⟩, .slice none 0 0, .int .i64 0, .slice none 0 0, .slice none 0 0, .string ⟨#[]⟩, .bool false] 38)) := hW
  have KW : Hid (Below w.heap.size w W) := by rw [hW]; exact (((Below.refl _ _).alloc (Nat.le_refl _) _).alloc (by simp) _).alloc (by simp; omega) _
  have A0 : Hid (At w.heap.size (w.heap.size + 1) (Bx w.heap.size [.int .i64 kd, .int .i64 ei, .int .i64 dr, .string qm, .string qh, .string qp, .slice qa ql.length qc, .int .i64 rs, .slice pa pl.length pc, .slice pb bl.length bc, .string tx, .bool hd]) W) := by rw [hW]; exact ((Bx.new _ [.int .i64 kd, .int .i64 ei, .int .i64 dr, .string qm, .string qh, .string qp, .slice qa ql.length qc, .int .i64 rs, .slice pa pl.length pc, .slice pb bl.length bc, .string tx, .bool hd] _).al _).al _
  have A1 : Hid (At (w.heap.size + 1) (w.heap.size + 1 + 1) (Bx (w.heap.size + 1) [.int .i64 0, .int .i64 0, .int .i64 0, .string ⟨#[]⟩, .string ⟨#[]⟩, .string ⟨#[]⟩, .slice none 0 0, .int .i64 0, .slice none 0 0, .slice none 0 0, .string ⟨#[]⟩, .bool false]) W) := by rw [hW]; exact (Bx.newAt (by simp) [.int .i64 0, .int .i64 0, .int .i64 0, .string ⟨#[]⟩, .string ⟨#[]⟩, .string ⟨#[]⟩, .slice none 0 0, .int .i64 0, .slice none 0 0, .slice none 0 0, .string ⟨#[]⟩, .bool false] _).al _
  have A2 : Hid (At (w.heap.size + 2) (w.heap.size + 2 + 1) (Bx (w.heap.size + 2) [.int .i64 kd, .int .i64 ei, .int .i64 dr, .string ⟨#[]⟩, .string ⟨#[]⟩, .string ⟨#[]⟩, .slice none 0 0, .int .i64 0, .slice none 0 0, .slice none 0 0, .string ⟨#[]⟩, .bool false]) W) := by rw [hW]; exact Bx.newAt (by simp) [.int .i64 kd, .int .i64 ei, .int .i64 dr, .string ⟨#[]⟩, .string ⟨#[]⟩, .string ⟨#[]⟩, .slice none 0 0, .int .i64 0, .slice none 0 0, .slice none 0 0, .string ⟨#[]⟩, .bool false] _
  have SW : Hid (w.heap.size + 3 ≤ W.heap.size) := by rw [hW]; show _ ≤ _; simp
  clear hW
  go_enter Tryz.func6, Tryz.ntmps6
  go_wp2_with fail
  rw [← HW.out]
  clear HW
  refine (H0.out W KW.out).mono ?_
  rintro e0 w1 ⟨⟨K, rfl, c⟩, hb⟩
  have Kw1 : Hid (Below w.heap.size w w1) := KW.out.trans (hb.mono KW.out.size)
  have A0w1 : Hid (At w.heap.size (w.heap.size + 1) (Bx w.heap.size [.int .i64 kd, .int .i64 ei, .int .i64 dr, .string qm, .string qh, .string qp, .slice qa ql.length qc, .int .i64 rs, .slice pa pl.length pc, .slice pb bl.length bc, .string tx, .bool hd]) w1) := A0.out.keep hb
  have A1w1 : Hid (At (w.heap.size + 1) ((w.heap.size + 1) + 1) (Bx (w.heap.size + 1) [.int .i64 0, .int .i64 0, .int .i64 0, .string ⟨#[]⟩, .string ⟨#[]⟩, .string ⟨#[]⟩, .slice none 0 0, .int .i64 0, .slice none 0 0, .slice none 0 0, .string ⟨#[]⟩, .bool false]) w1) := A1.out.keep hb
  have A2w1 : Hid (At (w.heap.size + 2) ((w.heap.size + 2) + 1) (Bx (w.heap.size + 2) [.int .i64 kd, .int .i64 ei, .int .i64 dr, .string ⟨#[]⟩, .string ⟨#[]⟩, .string ⟨#[]⟩, .slice none 0 0, .int .i64 0, .slice none 0 0, .slice none 0 0, .string ⟨#[]⟩, .bool false]) w1) := A2.out.keep hb
  obtain ⟨l0, hl0⟩ : ∃ n, W.heap.size = n := ⟨_, rfl⟩
  obtain ⟨h0, hh0⟩ : ∃ n, w1.heap.size = n := ⟨_, rfl⟩
  have B0 : Hid (At l0 h0 (CQ K) w1) := by rw [← hl0, ← hh0]; exact c
  have O0 : Hid (w.heap.size + 3 ≤ l0 ∧ l0 ≤ h0) := ⟨by rw [← hl0]; have := A2.out.le; omega, by rw [← hl0, ← hh0]; exact hb.size⟩
  clear c hl0 hh0
  clear hb KW A0 A1 A2  H0
  have g7 := A0w1.out.val.1 7 _ rfl
  have g8 := A0w1.out.val.1 8 _ rfl
  have g9 := A0w1.out.val.1 9 _ rfl
  obtain ⟨V1, hV1⟩ : ∃ V, V = ((((w1.setCell ⟨w.heap.size + 2, 3, none⟩ (.string qm)).setCell ⟨w.heap.size + 2, 4, none⟩ (.string qh)).setCell ⟨w.heap.size + 2, 5, none⟩ (.string qp)).setCell ⟨w.heap.size + 2, 6, none⟩ (.slice (some ⟨K, 0, none⟩) ql.length ql.length)) := ⟨_, rfl⟩
  have HV1 : Hid (V1 = ((((w1.setCell ⟨w.heap.size + 2, 3, none⟩ (.string qm)).setCell ⟨w.heap.size + 2, 4, none⟩ (.string qh)).setCell ⟨w.heap.size + 2, 5, none⟩ (.string qp)).setCell ⟨w.heap.size + 2, 6, none⟩ (.slice (some ⟨K, 0, none⟩) ql.length ql.length))) := hV1
  have KV1 : Hid (Below w.heap.size w V1) := by rw [hV1]; exact ((((Kw1.out.setCell (by simp only; omega) _).setCell (by simp only; omega) _).setCell (by simp only; omega) _).setCell (by simp only; omega) _)
  have A0V1 : Hid (At w.heap.size (w.heap.size + 1) (Bx w.heap.size [.int .i64 kd, .int .i64 ei, .int .i64 dr, .string qm, .string qh, .string qp, .slice qa ql.length qc, .int .i64 rs, .slice pa pl.length pc, .slice pb bl.length bc, .string tx, .bool hd]) V1) := by rw [hV1]; exact ((((A0w1.out.set _ (by omega)).set _ (by omega)).set _ (by omega)).set _ (by omega))
  have A1V1 : Hid (At (w.heap.size + 1) ((w.heap.size + 1) + 1) (Bx (w.heap.size + 1) [.int .i64 0, .int .i64 0, .int .i64 0, .string ⟨#[]⟩, .string ⟨#[]⟩, .string ⟨#[]⟩, .slice none 0 0, .int .i64 0, .slice none 0 0, .slice none 0 0, .string ⟨#[]⟩, .bool false]) V1) := by rw [hV1]; exact ((((A1w1.out.set _ (by omega)).set _ (by omega)).set _ (by omega)).set _ (by omega))
  have A2V1 : Hid (At (w.heap.size + 2) (w.heap.size + 2 + 1) (Bx (w.heap.size + 2) [.int .i64 kd, .int .i64 ei, .int .i64 dr, .string qm, .string qh, .string qp, .slice (some ⟨K, 0, none⟩) ql.length ql.length, .int .i64 0, .slice none 0 0, .slice none 0 0, .string ⟨#[]⟩, .bool false]) V1) := by rw [hV1]; exact (Bx.put (Bx.put (Bx.put (Bx.put A2w1.out 3 (.string qm) (by simp)) 4 (.string qh) (by simp)) 5 (.string qp) (by simp)) 6 (.slice (some ⟨K, 0, none⟩) ql.length ql.length) (by simp))
  have B0V1 : Hid (At l0 h0 (CQ K) V1) := by rw [hV1]; exact ((((B0.out.set _ (.inl (by have := O0.out; omega))).set _ (.inl (by have := O0.out; omega))).set _ (.inl (by have := O0.out; omega))).set _ (.inl (by have := O0.out; omega)))
  have a3_V1 := A2w1.out.val.1 3 _ rfl
  have a4_V1 := A2w1.out.val.1 4 _ rfl
  have a5_V1 := A2w1.out.val.1 5 _ rfl
  have a6_V1 := A2w1.out.val.1 6 _ rfl
  have af_V1 := A2w1.out.val.2
  have af3_V1 := af_V1 3
  have af4_V1 := af_V1 4
  have af5_V1 := af_V1 5
  have af6_V1 := af_V1 6
  clear af_V1
  clear hV1 Kw1 A0w1 A1w1 A2w1 B0
  go_wp2_with fail
  rw [← HV1.out]
  clear a3_V1 a4_V1 a5_V1 a6_V1 af3_V1 af4_V1 af5_V1 af6_V1 g7 g8 g9 HV1
  refine (H1.out V1 KV1.out).mono ?_
  rintro e0 w2 ⟨⟨G, D, rfl, c⟩, hb⟩
  have Kw2 : Hid (Below w.heap.size w w2) := KV1.out.trans (hb.mono KV1.out.size)
  have A0w2 : Hid (At w.heap.size (w.heap.size + 1) (Bx w.heap.size [.int .i64 kd, .int .i64 ei, .int .i64 dr, .string qm, .string qh, .string qp, .slice qa ql.length qc, .int .i64 rs, .slice pa pl.length pc, .slice pb bl.length bc, .string tx, .bool hd]) w2) := A0V1.out.keep hb
  have A1w2 : Hid (At (w.heap.size + 1) ((w.heap.size + 1) + 1) (Bx (w.heap.size + 1) [.int .i64 0, .int .i64 0, .int .i64 0, .string ⟨#[]⟩, .string ⟨#[]⟩, .string ⟨#[]⟩, .slice none 0 0, .int .i64 0, .slice none 0 0, .slice none 0 0, .string ⟨#[]⟩, .bool false]) w2) := A1V1.out.keep hb
  have A2w2 : Hid (At (w.heap.size + 2) ((w.heap.size + 2) + 1) (Bx (w.heap.size + 2) [.int .i64 kd, .int .i64 ei, .int .i64 dr, .string qm, .string qh, .string qp, .slice (some ⟨K, 0, none⟩) ql.length ql.length, .int .i64 0, .slice none 0 0, .slice none 0 0, .string ⟨#[]⟩, .bool false]) w2) := A2V1.out.keep hb
  have B0V1w2 : Hid (At l0 h0 (CQ K) w2) := B0V1.out.keep hb
  obtain ⟨l1, hl1⟩ : ∃ n, V1.heap.size = n := ⟨_, rfl⟩
  obtain ⟨h1, hh1⟩ : ∃ n, w2.heap.size = n := ⟨_, rfl⟩
  have B1 : Hid (At l1 h1 (CP G D) w2) := by rw [← hl1, ← hh1]; exact c
  have O1 : Hid (w.heap.size + 3 ≤ l1 ∧ l1 ≤ h1 ∧ h0 ≤ l1) := ⟨by rw [← hl1]; have := A2V1.out.le; omega, by rw [← hl1, ← hh1]; exact hb.size, by rw [← hl1]; exact B0V1.out.le⟩
  clear c hl1 hh1
  clear hb KV1 A0V1 A1V1 A2V1 B0V1 H1
  have g10 := A0w2.out.val.1 10 _ rfl
  have g11 := A0w2.out.val.1 11 _ rfl
  obtain ⟨V2, hV2⟩ : ∃ V, V = (((((w2.setCell ⟨w.heap.size + 2, 7, none⟩ (.int .i64 rs)).setCell ⟨w.heap.size + 2, 8, none⟩ (.slice (some ⟨G, 0, none⟩) pl.length pl.length)).setCell ⟨w.heap.size + 2, 9, none⟩ (.slice (some ⟨D, 0, none⟩) bl.length bl.length)).setCell ⟨w.heap.size + 2, 10, none⟩ (.string tx)).setCell ⟨w.heap.size + 2, 11, none⟩ (.bool hd)) := ⟨_, rfl⟩
  have HV2 : Hid (V2 = (((((w2.setCell ⟨w.heap.size + 2, 7, none⟩ (.int .i64 rs)).setCell ⟨w.heap.size + 2, 8, none⟩ (.slice (some ⟨G, 0, none⟩) pl.length pl.length)).setCell ⟨w.heap.size + 2, 9, none⟩ (.slice (some ⟨D, 0, none⟩) bl.length bl.length)).setCell ⟨w.heap.size + 2, 10, none⟩ (.string tx)).setCell ⟨w.heap.size + 2, 11, none⟩ (.bool hd))) := hV2
  have KV2 : Hid (Below w.heap.size w V2) := by rw [hV2]; exact (((((Kw2.out.setCell (by simp only; omega) _).setCell (by simp only; omega) _).setCell (by simp only; omega) _).setCell (by simp only; omega) _).setCell (by simp only; omega) _)
  have A0V2 : Hid (At w.heap.size (w.heap.size + 1) (Bx w.heap.size [.int .i64 kd, .int .i64 ei, .int .i64 dr, .string qm, .string qh, .string qp, .slice qa ql.length qc, .int .i64 rs, .slice pa pl.length pc, .slice pb bl.length bc, .string tx, .bool hd]) V2) := by rw [hV2]; exact (((((A0w2.out.set _ (by omega)).set _ (by omega)).set _ (by omega)).set _ (by omega)).set _ (by omega))
  have A1V2 : Hid (At (w.heap.size + 1) ((w.heap.size + 1) + 1) (Bx (w.heap.size + 1) [.int .i64 0, .int .i64 0, .int .i64 0, .string ⟨#[]⟩, .string ⟨#[]⟩, .string ⟨#[]⟩, .slice none 0 0, .int .i64 0, .slice none 0 0, .slice none 0 0, .string ⟨#[]⟩, .bool false]) V2) := by rw [hV2]; exact (((((A1w2.out.set _ (by omega)).set _ (by omega)).set _ (by omega)).set _ (by omega)).set _ (by omega))
  have A2V2 : Hid (At (w.heap.size + 2) (w.heap.size + 2 + 1) (Bx (w.heap.size + 2) [.int .i64 kd, .int .i64 ei, .int .i64 dr, .string qm, .string qh, .string qp, .slice (some ⟨K, 0, none⟩) ql.length ql.length, .int .i64 rs, .slice (some ⟨G, 0, none⟩) pl.length pl.length, .slice (some ⟨D, 0, none⟩) bl.length bl.length, .string tx, .bool hd]) V2) := by rw [hV2]; exact (Bx.put (Bx.put (Bx.put (Bx.put (Bx.put A2w2.out 7 (.int .i64 rs) (by simp)) 8 (.slice (some ⟨G, 0, none⟩) pl.length pl.length) (by simp)) 9 (.slice (some ⟨D, 0, none⟩) bl.length bl.length) (by simp)) 10 (.string tx) (by simp)) 11 (.bool hd) (by simp))
  have B0V1w2V2 : Hid (At l0 h0 (CQ K) V2) := by rw [hV2]; exact (((((B0V1w2.out.set _ (.inl (by have := O0.out; omega))).set _ (.inl (by have := O0.out; omega))).set _ (.inl (by have := O0.out; omega))).set _ (.inl (by have := O0.out; omega))).set _ (.inl (by have := O0.out; omega)))
  have B1V2 : Hid (At l1 h1 (CP G D) V2) := by rw [hV2]; exact (((((B1.out.set _ (.inl (by have := O1.out; omega))).set _ (.inl (by have := O1.out; omega))).set _ (.inl (by have := O1.out; omega))).set _ (.inl (by have := O1.out; omega))).set _ (.inl (by have := O1.out; omega)))
  have a7_V2 := A2w2.out.val.1 7 _ rfl
  have a8_V2 := A2w2.out.val.1 8 _ rfl
  have a9_V2 := A2w2.out.val.1 9 _ rfl
  have a10_V2 := A2w2.out.val.1 10 _ rfl
  have a11_V2 := A2w2.out.val.1 11 _ rfl
  have af_V2 := A2w2.out.val.2
  have af7_V2 := af_V2 7
  have af8_V2 := af_V2 8
  have af9_V2 := af_V2 9
  have af10_V2 := af_V2 10
  have af11_V2 := af_V2 11
  clear af_V2
  clear hV2 Kw2 A0w2 A1w2 A2w2 B0V1w2 B1
  go_upto_region 9 with fail
  rw [← HV2.out]
  clear g10 g11 a7_V2 a8_V2 a9_V2 a10_V2 a11_V2 af7_V2 af8_V2 af9_V2 af10_V2 af11_V2 HV2
  refine wp_copyOut (b1 := w.heap.size + 2) (b2 := w.heap.size + 1) (vs := [.int .i64 kd, .int .i64 ei, .int .i64 dr, .string qm, .string qh, .string qp, .slice (some ⟨K, 0, none⟩) ql.length ql.length, .int .i64 rs, .slice (some ⟨G, 0, none⟩) pl.length pl.length, .slice (some ⟨D, 0, none⟩) bl.length bl.length, .string tx, .bool hd]) (zs := [.int .i64 0, .int .i64 0, .int .i64 0, .string ⟨#[]⟩, .string ⟨#[]⟩, .string ⟨#[]⟩, .slice none 0 0, .int .i64 0, .slice none 0 0, .slice none 0 0, .string ⟨#[]⟩, .bool false]) Tryz.underlying38 sizeEvent rfl (fun _ => rfl) (fun _ => rfl) A2V2.out.val.1 A1V2.out.val.1 A1V2.out.val.2 rfl rfl ?_
  obtain ⟨VF, hVF⟩ : ∃ V, V = putAll V2 (w.heap.size + 1) 0 [.int .i64 kd, .int .i64 ei, .int .i64 dr, .string qm, .string qh, .string qp, .slice (some ⟨K, 0, none⟩) ql.length ql.length, .int .i64 rs, .slice (some ⟨G, 0, none⟩) pl.length pl.length, .slice (some ⟨D, 0, none⟩) bl.length bl.length, .string tx, .bool hd] := ⟨_, rfl⟩
  rw [← hVF]
  have R : At (w.heap.size + 1) (w.heap.size + 1 + 1) (Bx (w.heap.size + 1) [.int .i64 kd, .int .i64 ei, .int .i64 dr, .string qm, .string qh, .string qp, .slice (some ⟨K, 0, none⟩) ql.length ql.length, .int .i64 rs, .slice (some ⟨G, 0, none⟩) pl.length pl.length, .slice (some ⟨D, 0, none⟩) bl.length bl.length, .string tx, .bool hd]) VF := by rw [hVF]; exact Bx.putAll A1V2.out [.int .i64 kd, .int .i64 ei, .int .i64 dr, .string qm, .string qh, .string qp, .slice (some ⟨K, 0, none⟩) ql.length ql.length, .int .i64 rs, .slice (some ⟨G, 0, none⟩) pl.length pl.length, .slice (some ⟨D, 0, none⟩) bl.length bl.length, .string tx, .bool hd] rfl
  have KF : Below w.heap.size w VF := by rw [hVF]; exact below_putAll (by omega) [.int .i64 kd, .int .i64 ei, .int .i64 dr, .string qm, .string qh, .string qp, .slice (some ⟨K, 0, none⟩) ql.length ql.length, .int .i64 rs, .slice (some ⟨G, 0, none⟩) pl.length pl.length, .slice (some ⟨D, 0, none⟩) bl.length bl.length, .string tx, .bool hd] 0 KV2.out
  have E0 : At l0 h0 (CQ K) VF := by rw [hVF]; exact At.putAll (.inl (by have := O0.out; omega)) [.int .i64 kd, .int .i64 ei, .int .i64 dr, .string qm, .string qh, .string qp, .slice (some ⟨K, 0, none⟩) ql.length ql.length, .int .i64 rs, .slice (some ⟨G, 0, none⟩) pl.length pl.length, .slice (some ⟨D, 0, none⟩) bl.length bl.length, .string tx, .bool hd] 0 B0V1w2V2.out
  have o0 := O0.out
  have s0 := E0.le
  have E1 : At l1 h1 (CP G D) VF := by rw [hVF]; exact At.putAll (.inl (by have := O1.out; omega)) [.int .i64 kd, .int .i64 ei, .int .i64 dr, .string qm, .string qh, .string qp, .slice (some ⟨K, 0, none⟩) ql.length ql.length, .int .i64 rs, .slice (some ⟨G, 0, none⟩) pl.length pl.length, .slice (some ⟨D, 0, none⟩) bl.length bl.length, .string tx, .bool hd] 0 B1V2.out
  have o1 := O1.out
  have s1 := E1.le
  clear hVF KV2 A0V2 A1V2 A2V2 B0V1w2V2 B1V2
  go_wp2_with fail
  have rz0 := R.val.1 0 _ rfl
  have rz1 := R.val.1 1 _ rfl
  have rz2 := R.val.1 2 _ rfl
  have rz3 := R.val.1 3 _ rfl
  have rz4 := R.val.1 4 _ rfl
  have rz5 := R.val.1 5 _ rfl
  have rz6 := R.val.1 6 _ rfl
  have rz7 := R.val.1 7 _ rfl
  have rz8 := R.val.1 8 _ rfl
  have rz9 := R.val.1 9 _ rfl
  have rz10 := R.val.1 10 _ rfl
  have rz11 := R.val.1 11 _ rfl
  refine bodyPost_ret (v := .agg #[.int .i64 kd, .int .i64 ei, .int .i64 dr, .string qm, .string qh, .string qp, .slice (some ⟨K, 0, none⟩) ql.length ql.length, .int .i64 rs, .slice (some ⟨G, 0, none⟩) pl.length pl.length, .slice (some ⟨D, 0, none⟩) bl.length bl.length, .string tx, .bool hd]) ?_ rfl ⟨⟨K, G, D, rfl, (At.wideB (Bef.at E0 (Wide.at E1 (by omega)) (by omega)) (by omega) (by omega) (Nat.le_refl _))⟩, KF⟩
  simp [results, Tryz.results6, go_sem, rz0, rz1, rz2, rz3, rz4, rz5, rz6, rz7, rz8, rz9, rz10, rz11]
set_option maxRecDepth 100000 in
set_option maxHeartbeats 8000000 in
theorem eq_Event (w : World) (kd ei dr : Int) (qm qh qp : ByteArray) (ql : List Hdr) (rs : Int) (pl : List Hdr) (bl : List UInt8) (tx : ByteArray) (hd : Bool) (CQ : Nat → Nat → Nat → World → Prop) (CP : Nat → Nat → Nat → Nat → World → Prop) (Kx : Nat) (Gx : Nat) (Dx : Nat) (Ky : Nat) (Gy : Nat) (Dy : Nat) (xl0 xh0 : Nat) (yl0 yh0 : Nat) (xl1 xh1 : Nat) (yl1 yh1 : Nat) (cx0 : At xl0 xh0 (CQ Kx) w) (cy0 : At yl0 yh0 (CQ Ky) w) (cx1 : At xl1 xh1 (CP Gx Dx) w) (cy1 : At yl1 yh1 (CP Gy Dy) w) (H0 : Hid (∀ X la ha lb hb (Kx : Nat) (Ky : Nat), At la ha (CQ Kx) X → At lb hb (CQ Ky) X → Calls Tryz.prog 23 #[.agg #[.string qm, .string qh, .string qp, .slice (some ⟨Kx, 0, none⟩) ql.length ql.length], .agg #[.string qm, .string qh, .string qp, .slice (some ⟨Ky, 0, none⟩) ql.length ql.length]] X fun e w' => e = .returned (.bool true) ∧ Below X.heap.size X w'))
    (H1 : Hid (∀ X la ha lb hb (Gx : Nat) (Dx : Nat) (Gy : Nat) (Dy : Nat), At la ha (CP Gx Dx) X → At lb hb (CP Gy Dy) X → Calls Tryz.prog 24 #[.agg #[.int .i64 rs, .slice (some ⟨Gx, 0, none⟩) pl.length pl.length, .slice (some ⟨Dx, 0, none⟩) bl.length bl.length], .agg #[.int .i64 rs, .slice (some ⟨Gy, 0, none⟩) pl.length pl.length, .slice (some ⟨Dy, 0, none⟩) bl.length bl.length]] X fun e w' => e = .returned (.bool true) ∧ Below X.heap.size X w')) :
    Calls Tryz.prog 8 #[.agg #[.int .i64 kd, .int .i64 ei, .int .i64 dr, .string qm, .string qh, .string qp, .slice (some ⟨Kx, 0, none⟩) ql.length ql.length, .int .i64 rs, .slice (some ⟨Gx, 0, none⟩) pl.length pl.length, .slice (some ⟨Dx, 0, none⟩) bl.length bl.length, .string tx, .bool hd], .agg #[.int .i64 kd, .int .i64 ei, .int .i64 dr, .string qm, .string qh, .string qp, .slice (some ⟨Ky, 0, none⟩) ql.length ql.length, .int .i64 rs, .slice (some ⟨Gy, 0, none⟩) pl.length pl.length, .slice (some ⟨Dy, 0, none⟩) bl.length bl.length, .string tx, .bool hd]] w fun e w' => e = .returned (.bool true) ∧ Below w.heap.size w w' := by
  obtain ⟨W, hW⟩ : ∃ W, W = (w.alloc (.cells #[.int .i64 kd, .int .i64 ei, .int .i64 dr, .string qm, .string qh, .string qp, .slice (some ⟨Kx, 0, none⟩) ql.length ql.length, .int .i64 rs, .slice (some ⟨Gx, 0, none⟩) pl.length pl.length, .slice (some ⟨Dx, 0, none⟩) bl.length bl.length, .string tx, .bool hd] 38)).alloc (.cells #[.int .i64 kd, .int .i64 ei, .int .i64 dr, .string qm, .string qh, .string qp, .slice (some ⟨Ky, 0, none⟩) ql.length ql.length, .int .i64 rs, .slice (some ⟨Gy, 0, none⟩) pl.length pl.length, .slice (some ⟨Dy, 0, none⟩) bl.length bl.length, .string tx, .bool hd] 38) := ⟨_, rfl⟩
  have HW : Hid (W = (w.alloc (.cells #[.int .i64 kd, .int .i64 ei, .int .i64 dr, .string qm, .string qh, .string qp, .slice (some ⟨Kx, 0, none⟩) ql.length ql.length, .int .i64 rs, .slice (some ⟨Gx, 0, none⟩) pl.length pl.length, .slice (some ⟨Dx, 0, none⟩) bl.length bl.length, .string tx, .bool hd] 38)).alloc (.cells #[.int .i64 kd, .int .i64 ei, .int .i64 dr, .string qm, .string qh, .string qp, .slice (some ⟨Ky, 0, none⟩) ql.length ql.length, .int .i64 rs, .slice (some ⟨Gy, 0, none⟩) pl.length pl.length, .slice (some ⟨Dy, 0, none⟩) bl.length bl.length, .string tx, .bool hd] 38)) := hW
  have KW : Hid (Below w.heap.size w W) := by rw [hW]; exact ((Below.refl _ _).alloc (Nat.le_refl _) _).alloc (by simp) _
  have A0 : Hid (At w.heap.size (w.heap.size + 1) (Bx w.heap.size [.int .i64 kd, .int .i64 ei, .int .i64 dr, .string qm, .string qh, .string qp, .slice (some ⟨Kx, 0, none⟩) ql.length ql.length, .int .i64 rs, .slice (some ⟨Gx, 0, none⟩) pl.length pl.length, .slice (some ⟨Dx, 0, none⟩) bl.length bl.length, .string tx, .bool hd]) W) := by rw [hW]; exact (Bx.new _ [.int .i64 kd, .int .i64 ei, .int .i64 dr, .string qm, .string qh, .string qp, .slice (some ⟨Kx, 0, none⟩) ql.length ql.length, .int .i64 rs, .slice (some ⟨Gx, 0, none⟩) pl.length pl.length, .slice (some ⟨Dx, 0, none⟩) bl.length bl.length, .string tx, .bool hd] _).al _
  have A1 : Hid (At (w.heap.size + 1) (w.heap.size + 1 + 1) (Bx (w.heap.size + 1) [.int .i64 kd, .int .i64 ei, .int .i64 dr, .string qm, .string qh, .string qp, .slice (some ⟨Ky, 0, none⟩) ql.length ql.length, .int .i64 rs, .slice (some ⟨Gy, 0, none⟩) pl.length pl.length, .slice (some ⟨Dy, 0, none⟩) bl.length bl.length, .string tx, .bool hd]) W) := by rw [hW]; exact Bx.newAt (by simp) [.int .i64 kd, .int .i64 ei, .int .i64 dr, .string qm, .string qh, .string qp, .slice (some ⟨Ky, 0, none⟩) ql.length ql.length, .int .i64 rs, .slice (some ⟨Gy, 0, none⟩) pl.length pl.length, .slice (some ⟨Dy, 0, none⟩) bl.length bl.length, .string tx, .bool hd] _
  have Fx0 : Hid (At xl0 xh0 (CQ Kx) W) := by rw [hW]; exact (cx0.al _).al _
  have Fy0 : Hid (At yl0 yh0 (CQ Ky) W) := by rw [hW]; exact (cy0.al _).al _
  have Fx1 : Hid (At xl1 xh1 (CP Gx Dx) W) := by rw [hW]; exact (cx1.al _).al _
  have Fy1 : Hid (At yl1 yh1 (CP Gy Dy) W) := by rw [hW]; exact (cy1.al _).al _
  clear hW cx0 cy0 cx1 cy1
  go_enter Tryz.func8, Tryz.ntmps8
  go_wp2_with fail
  rw [← HW.out]
  clear HW
  refine (H0.out _ _ _ _ _ _ _ Fx0.out Fy0.out).mono ?_
  rintro e0 w1 ⟨rfl, hb⟩
  have Kw1 : Hid (Below w.heap.size w w1) := KW.out.trans (hb.mono KW.out.size)
  have A0w1 : Hid (At w.heap.size (w.heap.size + 1) (Bx w.heap.size [.int .i64 kd, .int .i64 ei, .int .i64 dr, .string qm, .string qh, .string qp, .slice (some ⟨Kx, 0, none⟩) ql.length ql.length, .int .i64 rs, .slice (some ⟨Gx, 0, none⟩) pl.length pl.length, .slice (some ⟨Dx, 0, none⟩) bl.length bl.length, .string tx, .bool hd]) w1) := A0.out.keep hb
  have A1w1 : Hid (At (w.heap.size + 1) ((w.heap.size + 1) + 1) (Bx (w.heap.size + 1) [.int .i64 kd, .int .i64 ei, .int .i64 dr, .string qm, .string qh, .string qp, .slice (some ⟨Ky, 0, none⟩) ql.length ql.length, .int .i64 rs, .slice (some ⟨Gy, 0, none⟩) pl.length pl.length, .slice (some ⟨Dy, 0, none⟩) bl.length bl.length, .string tx, .bool hd]) w1) := A1.out.keep hb
  have Fx0w1 : Hid (At xl0 xh0 (CQ Kx) w1) := Fx0.out.keep hb
  have Fy0w1 : Hid (At yl0 yh0 (CQ Ky) w1) := Fy0.out.keep hb
  have Fx1w1 : Hid (At xl1 xh1 (CP Gx Dx) w1) := Fx1.out.keep hb
  have Fy1w1 : Hid (At yl1 yh1 (CP Gy Dy) w1) := Fy1.out.keep hb
  clear hb KW A0 A1 Fx0 Fy0 Fx1 Fy1 H0
  have p0_7 := A0w1.out.val.1 7 _ rfl
  have p1_7 := A1w1.out.val.1 7 _ rfl
  have p0_8 := A0w1.out.val.1 8 _ rfl
  have p1_8 := A1w1.out.val.1 8 _ rfl
  have p0_9 := A0w1.out.val.1 9 _ rfl
  have p1_9 := A1w1.out.val.1 9 _ rfl
  go_wp2_with fail
  refine (H1.out _ _ _ _ _ _ _ _ _ Fx1w1.out Fy1w1.out).mono ?_
  rintro e0 w2 ⟨rfl, hb⟩
  have Kw2 : Hid (Below w.heap.size w w2) := Kw1.out.trans (hb.mono Kw1.out.size)
  have A0w2 : Hid (At w.heap.size (w.heap.size + 1) (Bx w.heap.size [.int .i64 kd, .int .i64 ei, .int .i64 dr, .string qm, .string qh, .string qp, .slice (some ⟨Kx, 0, none⟩) ql.length ql.length, .int .i64 rs, .slice (some ⟨Gx, 0, none⟩) pl.length pl.length, .slice (some ⟨Dx, 0, none⟩) bl.length bl.length, .string tx, .bool hd]) w2) := A0w1.out.keep hb
  have A1w2 : Hid (At (w.heap.size + 1) ((w.heap.size + 1) + 1) (Bx (w.heap.size + 1) [.int .i64 kd, .int .i64 ei, .int .i64 dr, .string qm, .string qh, .string qp, .slice (some ⟨Ky, 0, none⟩) ql.length ql.length, .int .i64 rs, .slice (some ⟨Gy, 0, none⟩) pl.length pl.length, .slice (some ⟨Dy, 0, none⟩) bl.length bl.length, .string tx, .bool hd]) w2) := A1w1.out.keep hb
  have Fx0w1w2 : Hid (At xl0 xh0 (CQ Kx) w2) := Fx0w1.out.keep hb
  have Fy0w1w2 : Hid (At yl0 yh0 (CQ Ky) w2) := Fy0w1.out.keep hb
  have Fx1w1w2 : Hid (At xl1 xh1 (CP Gx Dx) w2) := Fx1w1.out.keep hb
  have Fy1w1w2 : Hid (At yl1 yh1 (CP Gy Dy) w2) := Fy1w1.out.keep hb
  clear hb Kw1 A0w1 A1w1 Fx0w1 Fy0w1 Fx1w1 Fy1w1 p0_7 p1_7 p0_8 p1_8 p0_9 p1_9 H1
  have p0_10 := A0w2.out.val.1 10 _ rfl
  have p1_10 := A1w2.out.val.1 10 _ rfl
  have p0_11 := A0w2.out.val.1 11 _ rfl
  have p1_11 := A1w2.out.val.1 11 _ rfl
  go_wp2_with fail
  go_ret
  exact ⟨rfl, Kw2.out⟩
/-- How much room is left behind an event; below 0: none. -/
def szEv (left : Int) (qm qh qp : ByteArray) (ql pl : List Hdr) (bl : List UInt8) (tx : ByteArray) : Int :=
  if szRq left qm qh qp ql < 0 then -1 else
  if szP (szRq left qm qh qp ql) pl bl.length < 0 then -1 else
  if szP (szRq left qm qh qp ql) pl bl.length - (tx.size : Int) < 0 then -1 else szP (szRq left qm qh qp ql) pl bl.length - (tx.size : Int)
theorem szEv_room {left : Int} {qm qh qp : ByteArray} {ql pl : List Hdr} {bl : List UInt8} {tx : ByteArray} (h1 : left ≤ 1048576) (hz : ¬ szEv left qm qh qp ql pl bl tx < 0) : qm.size ≤ 1048576 ∧ qh.size ≤ 1048576 ∧ qp.size ≤ 1048576 ∧ ql.length ≤ 1048576 ∧ pl.length ≤ 1048576 ∧ bl.length ≤ 1048576 ∧ tx.size ≤ 1048576 := by
  unfold szEv at hz
  by_cases c1 : szRq left qm qh qp ql < 0
  · rw [if_pos c1] at hz; omega
  rw [if_neg c1] at hz
  by_cases c2 : szP (szRq left qm qh qp ql) pl bl.length < 0
  · rw [if_pos c2] at hz; omega
  rw [if_neg c2] at hz
  obtain ⟨a1, a2, a3, a4, a5⟩ := szRq_room h1 c1
  obtain ⟨b1, b2, b3⟩ := szP_room (Int.le_trans a5 h1) c2
  by_cases c3 : szP (szRq left qm qh qp ql) pl bl.length - (tx.size : Int) < 0
  · rw [if_pos c3] at hz; omega
  exact ⟨a1, a2, a3, a4, b1, b2, by omega⟩
set_option maxHeartbeats 4000000 in
theorem szEvent_any (w : World) (kd ei dr : Int) (qm qh qp : ByteArray) (qa : Option Addr) (qc : Nat) (ql : List Hdr) (rs : Int) (pa : Option Addr) (pc : Nat) (pb : Option Addr) (bc : Nat) (pl : List Hdr) (bl : List UInt8) (tx : ByteArray) (hd : Bool) (z1 : qm.size ≤ maxLen) (z2 : qh.size ≤ maxLen) (z3 : qp.size ≤ maxLen) (hl : ql.length ≤ maxLen) (hz : SmallHdrs ql) (hi : HdsIn w qa ql) (pll : pl.length ≤ maxLen) (hpz : SmallHdrs pl) (hpi : HdsIn w pa pl) (hbn : bl.length ≤ maxLen) (ht : tx.size ≤ maxLen) (left : Int) (h0 : 0 ≤ left) (h1 : left ≤ 1048576) :
    Calls Tryz.prog 4 #[.agg #[.int .i64 kd, .int .i64 ei, .int .i64 dr, .string qm, .string qh, .string qp, .slice qa ql.length qc, .int .i64 rs, .slice pa pl.length pc, .slice pb bl.length bc, .string tx, .bool hd], .int .i64 left] w fun e w' => e = .returned (.int .i64 (szEv left qm qh qp ql pl bl tx)) ∧ Below w.heap.size w w' := by
  obtain ⟨W, hW⟩ : ∃ W, W = w.alloc (.cells #[.int .i64 kd, .int .i64 ei, .int .i64 dr, .string qm, .string qh, .string qp, .slice qa ql.length qc, .int .i64 rs, .slice pa pl.length pc, .slice pb bl.length bc, .string tx, .bool hd] 29) := ⟨_, rfl⟩
  have HW := hidL hW
  have bW : Below w.heap.size w W := by rw [hW]; exact (Below.refl _ _).alloc (Nat.le_refl _) _
  have KW := hidL bW
  have FB := hidL (show At w.heap.size (w.heap.size + 1) (Bx w.heap.size [.int .i64 kd, .int .i64 ei, .int .i64 dr, .string qm, .string qh, .string qp, .slice qa ql.length qc, .int .i64 rs, .slice pa pl.length pc, .slice pb bl.length bc, .string tx, .bool hd]) W by rw [hW]; exact Bx.new _ [.int .i64 kd, .int .i64 ei, .int .i64 dr, .string qm, .string qh, .string qp, .slice qa ql.length qc, .int .i64 rs, .slice pa pl.length pc, .slice pb bl.length bc, .string tx, .bool hd] _)
  have C1 : Hid (Calls Tryz.prog 9 #[.agg #[.string qm, .string qh, .string qp, .slice qa ql.length qc], .int .i64 left] W fun e w' => e = .returned (.int .i64 (szRq left qm qh qp ql)) ∧ Below W.heap.size W w') := szRequest_any W qm qh qp qa qc ql z1 z2 z3 hl hz (hi.keep bW) left h0 h1
  have C2 : Hid (∀ X z, Below w.heap.size w X → 0 ≤ z → z ≤ 1048576 → Calls Tryz.prog 10 #[.agg #[.int .i64 rs, .slice pa pl.length pc, .slice pb bl.length bc], .int .i64 z] X fun e w' => e = .returned (.int .i64 (szP z pl bl.length)) ∧ Below X.heap.size X w') := fun X z hX a b => szResponse_any X rs pa pc pl pb bl.length bc pll hpz (hpi.keep hX) hbn z a b
  have R1 : Hid (¬ szRq left qm qh qp ql < 0 → szRq left qm qh qp ql ≤ left) := fun h => (szRq_room h1 h).2.2.2.2
  have R2 : Hid (∀ z, z ≤ 1048576 → ¬ szP z pl bl.length < 0 → szP z pl bl.length ≤ z) := fun z hz h => (szP_room hz h).2.2
  unfold maxLen at ht
  obtain ⟨r, hr⟩ : ∃ r, szEv left qm qh qp ql pl bl tx = r := ⟨_, rfl⟩
  rw [hr]
  unfold szEv at hr
  have HR := hidL hr
  clear hr hW bW z1 z2 z3 hl hz hi pll hpz hpi hbn
  obtain ⟨y1, hy1⟩ : ∃ y, szRq left qm qh qp ql = y := ⟨_, rfl⟩
  rw [hy1] at C1 HR R1
  clear hy1
  obtain ⟨y2, hy2⟩ : ∃ y, szP y1 pl bl.length = y := ⟨_, rfl⟩
  have HY2 := hidL hy2
  have R3 : Hid (y1 ≤ 1048576 → ¬ y2 < 0 → y2 ≤ y1) := fun h1 h2 => by have := R2.out y1 h1; rw [hy2] at this; exact this h2
  clear R2
  rw [hy2] at HR
  clear hy2
  generalize ql.length = n at *
  generalize hpl : pl.length = k at *
  generalize hbl : bl.length = b at *
  clear hpl hbl
  go_enter Tryz.func4, Tryz.ntmps4
  go_upto_region 1 with fail
  rw [← HW.out]
  clear HW
  have c3 := FB.out.val.1 3 _ rfl
  have c4 := FB.out.val.1 4 _ rfl
  have c5 := FB.out.val.1 5 _ rfl
  have c6 := FB.out.val.1 6 _ rfl
  go_wp2_with fail
  refine C1.out.mono ?_
  rintro e w1 ⟨rfl, hb⟩
  have K1 := hidL (KW.out.trans (hb.mono KW.out.size))
  replace FB := hidL (FB.out.keep hb)
  clear hb C1 KW c3 c4 c5 c6
  by_cases d1 : y1 < 0
  · have hR := HR.out
    rw [if_pos d1] at hR
    subst hR
    clear HR R1
    go_wp2_with fail
    go_ret
    exact ⟨rfl, K1.out⟩
  have hle := R1.out (by omega)
  rw [if_neg d1] at HR
  have c7 := FB.out.val.1 7 _ rfl
  have c8 := FB.out.val.1 8 _ rfl
  have c9 := FB.out.val.1 9 _ rfl
  go_wp2_with fail
  refine (C2.out w1 y1 K1.out (by omega) (by omega)).mono ?_
  rintro e w2 ⟨rfl, hb⟩
  have K2 := hidL (K1.out.trans (hb.mono K1.out.size))
  replace FB := hidL (FB.out.keep hb)
  clear hb C2 K1 c7 c8 c9 R1
  rw [HY2.out]
  clear HY2
  by_cases d2 : y2 < 0
  · have hR := HR.out
    rw [if_pos d2] at hR
    subst hR
    clear HR
    go_wp2_with fail
    go_ret
    exact ⟨rfl, K2.out⟩
  rw [if_neg d2] at HR
  have hle2 := R3.out (by omega) (by omega)
  clear R3
  have c10 := FB.out.val.1 10 _ rfl
  by_cases d3 : y2 - (tx.size : Int) < 0
  · have hR := HR.out
    rw [if_pos d3] at hR
    subst hR
    clear HR
    go_wp2_with fail
    go_ret
    exact ⟨rfl, K2.out⟩
  · have hR := HR.out
    rw [if_neg d3] at hR
    subst hR
    clear HR
    go_wp2_with fail
    go_ret
    exact ⟨rfl, K2.out⟩
theorem evT (w : World) (kd ei dr : Int) (qm qh qp : ByteArray) (qa : Option Addr) (qc : Nat) (ql : List Hdr) (rs : Int) (pa : Option Addr) (pc : Nat) (pb : Option Addr) (bc : Nat) (pl : List Hdr) (bl : List UInt8) (tx : ByteArray) (hd : Bool) (hl : ql.length ≤ 1048576) (pll : pl.length ≤ 1048576) (hbl : bl.length ≤ 1048576) (hi : HdsIn w qa ql) (hpi : HdsIn w pa pl) (hib : BIn w pb bl) (X : World) (hX : Below w.heap.size w X) :
    Calls Tryz.prog 6 #[.agg #[.int .i64 kd, .int .i64 ei, .int .i64 dr, .string qm, .string qh, .string qp, .slice qa ql.length qc, .int .i64 rs, .slice pa pl.length pc, .slice pb bl.length bc, .string tx, .bool hd]] X fun e w' => (∃ (K : Nat) (G : Nat) (D : Nat), e = .returned (.agg #[.int .i64 kd, .int .i64 ei, .int .i64 dr, .string qm, .string qh, .string qp, .slice (some ⟨K, 0, none⟩) ql.length ql.length, .int .i64 rs, .slice (some ⟨G, 0, none⟩) pl.length pl.length, .slice (some ⟨D, 0, none⟩) bl.length bl.length, .string tx, .bool hd]) ∧ At X.heap.size w'.heap.size (Bef (QM K ql) (Wide (CResp pl bl G D))) w') ∧ Below X.heap.size X w' :=
  to_Event X kd ei dr qm qh qp qa qc ql rs pa pc pb bc pl bl tx hd (fun K => QM K ql) (fun G D => CResp pl bl G D) (fun Y hY => reqT w qm qh qp qa qc ql hl hi Y (hX.trans (hY.mono hX.size))) (fun Y hY => respT w rs pa pc pl pb bc bl pll hbl hpi hib Y (hX.trans (hY.mono hX.size)))
theorem evQ (kd ei dr : Int) (qm qh qp : ByteArray) (ql : List Hdr) (rs : Int) (pl : List Hdr) (bl : List UInt8) (tx : ByteArray) (hd : Bool) (hl : ql.length ≤ 1048576) (pll : pl.length ≤ 1048576) (hbl : bl.length ≤ 1048576) (X : World) (la ha lb hb K1 G1 D1 K2 G2 D2 : Nat) (c : At la ha (Bef (QM K1 ql) (Wide (CResp pl bl G1 D1))) X) (d : At lb hb (Bef (QM K2 ql) (Wide (CResp pl bl G2 D2))) X) :
    Calls Tryz.prog 8 #[.agg #[.int .i64 kd, .int .i64 ei, .int .i64 dr, .string qm, .string qh, .string qp, .slice (some ⟨K1, 0, none⟩) ql.length ql.length, .int .i64 rs, .slice (some ⟨G1, 0, none⟩) pl.length pl.length, .slice (some ⟨D1, 0, none⟩) bl.length bl.length, .string tx, .bool hd], .agg #[.int .i64 kd, .int .i64 ei, .int .i64 dr, .string qm, .string qh, .string qp, .slice (some ⟨K2, 0, none⟩) ql.length ql.length, .int .i64 rs, .slice (some ⟨G2, 0, none⟩) pl.length pl.length, .slice (some ⟨D2, 0, none⟩) bl.length bl.length, .string tx, .bool hd]] X fun e w' => e = .returned (.bool true) ∧ Below X.heap.size X w' := by
  obtain ⟨l1, h1, m1, n1, _, _, _, _, _, c1, c2⟩ := c.val
  obtain ⟨l2, h2, m2, n2, _, _, _, _, _, d1, d2⟩ := d.val
  obtain ⟨p1, q1, _, _, _, c3⟩ := c2.val
  obtain ⟨p2, q2, _, _, _, d3⟩ := d2.val
  exact eq_Event X kd ei dr qm qh qp ql rs pl bl tx hd (fun K => QM K ql) (fun G D => CResp pl bl G D) K1 G1 D1 K2 G2 D2 l1 h1 l2 h2 p1 q1 p2 q2 c1 d1 c3 d3 (fun Y la ha lb hb kx ky p q => reqQ qm qh qp ql hl Y la ha lb hb kx ky p q) (fun Y la ha lb hb gx dx gy dy p q => respQ rs pl bl pll hbl Y la ha lb hb gx dx gy dy p q)
end Go.Proofs.YthiiaefdobpjhaaGreatDoor
/-
  What SameRequests and its model answer.
-/
namespace Go.Proofs.YthiiaefdobpjhaaGreatDoor
open Go.ChangeShapes Go.WideShapes Go.ChangeAt Go.RowKit
def sameQ (m h p : ByteArray) (l : List Hdr) (m' h' p' : ByteArray) (l' : List Hdr) : Bool := (m.toList == m'.toList) && (h.toList == h'.toList) && (p.toList == p'.toList) && sameHs l l'
set_option maxHeartbeats 4000000 in
theorem implSameQ_any (w : World) (m h p : ByteArray) (a : Option Addr) (ca : Nat) (l : List Hdr) (m' h' p' : ByteArray) (b : Option Addr) (cb : Nat) (l' : List Hdr) (hl : l.length ≤ 1048576) (h1 : HdsIn w a l) (h2 : HdsIn w b l') :
    Calls Tryz.prog 33 #[.agg #[.string m, .string h, .string p, .slice a l.length ca], .agg #[.string m', .string h', .string p', .slice b l'.length cb]] w fun e w' => e = .returned (.bool (sameQ m h p l m' h' p' l')) ∧ Below w.heap.size w w' := by
  have HE : Hid (sameQ m h p l m' h' p' l' = ((m.toList == m'.toList) && (h.toList == h'.toList) && (p.toList == p'.toList) && sameHs l l')) := rfl
  have bV : Below w.heap.size w ((w.alloc (.cells #[.string m, .string h, .string p, .slice a l.length ca] 34)).alloc (.cells #[.string m', .string h', .string p', .slice b l'.length cb] 34)) := ((Below.refl _ _).alloc (Nat.le_refl _) _).alloc (by simp) _
  have C := implSameH_any _ a b ca cb l l' hl (h1.keep bV) (h2.keep bV)
  have HB : Hid (Below w.heap.size w ((w.alloc (.cells #[.string m, .string h, .string p, .slice a l.length ca] 34)).alloc (.cells #[.string m', .string h', .string p', .slice b l'.length cb] 34))) := bV
  clear bV h1 h2
  generalize sameHs l l' = sb at *
  generalize sameQ m h p l m' h' p' l' = q at *
  generalize l.length = n at *
  generalize l'.length = n' at *
  cases c1 : (m.toList == m'.toList)
  · have HV : Hid (q = false) := by show _ = _; rw [HE.out, c1]; rfl
    clear HE C
    go_enter Tryz.func33, Tryz.ntmps33
    go_wp2_with fail
    go_ret
    exact ⟨ret_bool HV.out.symm, HB.out⟩
  cases c2 : (h.toList == h'.toList)
  · have HV : Hid (q = false) := by show _ = _; rw [HE.out, c1, c2]; rfl
    clear HE C
    go_enter Tryz.func33, Tryz.ntmps33
    go_wp2_with fail
    go_ret
    exact ⟨ret_bool HV.out.symm, HB.out⟩
  cases c3 : (p.toList == p'.toList)
  · have HV : Hid (q = false) := by show _ = _; rw [HE.out, c1, c2, c3]; rfl
    clear HE C
    go_enter Tryz.func33, Tryz.ntmps33
    go_wp2_with fail
    go_ret
    exact ⟨ret_bool HV.out.symm, HB.out⟩
  have HV : Hid (q = sb) := by show _ = _; rw [HE.out, c1, c2, c3]; rfl
  clear HE
  go_enter Tryz.func33, Tryz.ntmps33
  go_wp2_with fail
  refine C.mono ?_
  rintro e w1 ⟨rfl, hb1⟩
  have HB1 : Hid (Below w.heap.size w w1) := HB.out.trans (hb1.mono HB.out.size)
  clear hb1 C HB
  go_wp2_with fail
  go_ret
  exact ⟨ret_bool HV.out.symm, HB1.out⟩
end Go.Proofs.YthiiaefdobpjhaaGreatDoor
/-
  Five cells that may be written.
-/
namespace Go.Proofs.YthiiaefdobpjhaaGreatDoor
open Go.ChangeShapes Go.WideShapes Go.ChangeAt Go.RowKit
structure S5 (w : World) (b : Nat) (v0 v1 v2 v3 v4 : Value) : Prop where
  c0 : w.cell? ⟨b, 0, none⟩ = some v0
  c1 : w.cell? ⟨b, 1, none⟩ = some v1
  c2 : w.cell? ⟨b, 2, none⟩ = some v2
  c3 : w.cell? ⟨b, 3, none⟩ = some v3
  c4 : w.cell? ⟨b, 4, none⟩ = some v4
  fr : ∀ o, w.frozen? ⟨b, o, none⟩ = false
  lt : b < w.heap.size
section
variable {w w' : World} {b : Nat} {v0 v1 v2 v3 v4 : Value}
theorem S5.keep (k : S5 w b v0 v1 v2 v3 v4) (hb : Below w.heap.size w w') : S5 w' b v0 v1 v2 v3 v4 :=
  ⟨by rw [hb.cell (p := ⟨b, 0, none⟩) k.lt]; exact k.c0, by rw [hb.cell (p := ⟨b, 1, none⟩) k.lt]; exact k.c1, by rw [hb.cell (p := ⟨b, 2, none⟩) k.lt]; exact k.c2, by rw [hb.cell (p := ⟨b, 3, none⟩) k.lt]; exact k.c3, by rw [hb.cell (p := ⟨b, 4, none⟩) k.lt]; exact k.c4, fun o => by rw [hb.frozen (p := ⟨b, o, none⟩) k.lt]; exact k.fr o, Nat.lt_of_lt_of_le k.lt hb.size⟩
theorem S5.new (w : World) (v0 v1 v2 v3 v4 : Value) (t : TypeId) : S5 (w.alloc (.cells #[v0, v1, v2, v3, v4] t)) w.heap.size v0 v1 v2 v3 v4 := ⟨by simp, by simp, by simp, by simp, by simp, fun o => by simp, by simp⟩
theorem S5.off (k : S5 w b v0 v1 v2 v3 v4) {B i : Nat} {x : Value} (h : B ≠ b) : S5 (w.setCell ⟨B, i, none⟩ x) b v0 v1 v2 v3 v4 := by
  have ne : ∀ o : Nat, (⟨B, i, none⟩ : Addr) ≠ ⟨b, o, none⟩ := fun o q => h (congrArg Addr.block q)
  exact ⟨by rw [World.cell?_setCell_other _ _ _ _ (ne _)]; exact k.c0, by rw [World.cell?_setCell_other _ _ _ _ (ne _)]; exact k.c1, by rw [World.cell?_setCell_other _ _ _ _ (ne _)]; exact k.c2, by rw [World.cell?_setCell_other _ _ _ _ (ne _)]; exact k.c3, by rw [World.cell?_setCell_other _ _ _ _ (ne _)]; exact k.c4, fun o => by rw [World.frozen?_setCell]; exact k.fr o, by simpa using k.lt⟩
theorem S5.set0 (k : S5 w b v0 v1 v2 v3 v4) (x : Value) : S5 (w.setCell ⟨b, 0, none⟩ x) b x v1 v2 v3 v4 :=
  ⟨World.cell?_setCell_same _ _ _ k.c0, by rw [World.cell?_setCell_other _ _ _ _ (by intro q; have := congrArg Addr.off q; simp at this)]; exact k.c1, by rw [World.cell?_setCell_other _ _ _ _ (by intro q; have := congrArg Addr.off q; simp at this)]; exact k.c2, by rw [World.cell?_setCell_other _ _ _ _ (by intro q; have := congrArg Addr.off q; simp at this)]; exact k.c3, by rw [World.cell?_setCell_other _ _ _ _ (by intro q; have := congrArg Addr.off q; simp at this)]; exact k.c4, fun o => by rw [World.frozen?_setCell]; exact k.fr o, by simpa using k.lt⟩
theorem S5.set1 (k : S5 w b v0 v1 v2 v3 v4) (x : Value) : S5 (w.setCell ⟨b, 1, none⟩ x) b v0 x v2 v3 v4 :=
  ⟨by rw [World.cell?_setCell_other _ _ _ _ (by intro q; have := congrArg Addr.off q; simp at this)]; exact k.c0, World.cell?_setCell_same _ _ _ k.c1, by rw [World.cell?_setCell_other _ _ _ _ (by intro q; have := congrArg Addr.off q; simp at this)]; exact k.c2, by rw [World.cell?_setCell_other _ _ _ _ (by intro q; have := congrArg Addr.off q; simp at this)]; exact k.c3, by rw [World.cell?_setCell_other _ _ _ _ (by intro q; have := congrArg Addr.off q; simp at this)]; exact k.c4, fun o => by rw [World.frozen?_setCell]; exact k.fr o, by simpa using k.lt⟩
theorem S5.set2 (k : S5 w b v0 v1 v2 v3 v4) (x : Value) : S5 (w.setCell ⟨b, 2, none⟩ x) b v0 v1 x v3 v4 :=
  ⟨by rw [World.cell?_setCell_other _ _ _ _ (by intro q; have := congrArg Addr.off q; simp at this)]; exact k.c0, by rw [World.cell?_setCell_other _ _ _ _ (by intro q; have := congrArg Addr.off q; simp at this)]; exact k.c1, World.cell?_setCell_same _ _ _ k.c2, by rw [World.cell?_setCell_other _ _ _ _ (by intro q; have := congrArg Addr.off q; simp at this)]; exact k.c3, by rw [World.cell?_setCell_other _ _ _ _ (by intro q; have := congrArg Addr.off q; simp at this)]; exact k.c4, fun o => by rw [World.frozen?_setCell]; exact k.fr o, by simpa using k.lt⟩
theorem S5.set3 (k : S5 w b v0 v1 v2 v3 v4) (x : Value) : S5 (w.setCell ⟨b, 3, none⟩ x) b v0 v1 v2 x v4 :=
  ⟨by rw [World.cell?_setCell_other _ _ _ _ (by intro q; have := congrArg Addr.off q; simp at this)]; exact k.c0, by rw [World.cell?_setCell_other _ _ _ _ (by intro q; have := congrArg Addr.off q; simp at this)]; exact k.c1, by rw [World.cell?_setCell_other _ _ _ _ (by intro q; have := congrArg Addr.off q; simp at this)]; exact k.c2, World.cell?_setCell_same _ _ _ k.c3, by rw [World.cell?_setCell_other _ _ _ _ (by intro q; have := congrArg Addr.off q; simp at this)]; exact k.c4, fun o => by rw [World.frozen?_setCell]; exact k.fr o, by simpa using k.lt⟩
theorem S5.set4 (k : S5 w b v0 v1 v2 v3 v4) (x : Value) : S5 (w.setCell ⟨b, 4, none⟩ x) b v0 v1 v2 v3 x :=
  ⟨by rw [World.cell?_setCell_other _ _ _ _ (by intro q; have := congrArg Addr.off q; simp at this)]; exact k.c0, by rw [World.cell?_setCell_other _ _ _ _ (by intro q; have := congrArg Addr.off q; simp at this)]; exact k.c1, by rw [World.cell?_setCell_other _ _ _ _ (by intro q; have := congrArg Addr.off q; simp at this)]; exact k.c2, by rw [World.cell?_setCell_other _ _ _ _ (by intro q; have := congrArg Addr.off q; simp at this)]; exact k.c3, World.cell?_setCell_same _ _ _ k.c4, fun o => by rw [World.frozen?_setCell]; exact k.fr o, by simpa using k.lt⟩
end
end Go.Proofs.YthiiaefdobpjhaaGreatDoor
/-
  Numbers within bounds; RulesFault, on both sides; a copy of rules.
-/
namespace Go.Proofs.YthiiaefdobpjhaaGreatDoor
open Go.ChangeShapes Go.WideShapes Go.ChangeAt Go.RowKit Go.Sort
def inW (lo hi x : Int) : Bool := decide (lo ≤ x) && decide (x ≤ hi)
theorem inW_yes {lo hi x : Int} (h0 : lo ≤ x) (h1 : x ≤ hi) : inW lo hi x = true := by simp [inW, h0, h1]
theorem inW_of {lo hi x : Int} (h : inW lo hi x = true) : lo ≤ x ∧ x ≤ hi := by simpa [inW] using h
theorem l1In_w (x lo hi : Int) (w : World) : Calls Tryz.prog 13 #[.int .i64 x, .int .i64 lo, .int .i64 hi] w fun r w' => r = .returned (.bool (inW lo hi x)) ∧ w' = w := by
  by_cases c1 : lo ≤ x
  · by_cases c2 : x ≤ hi
    · rw [inW_yes c1 c2]
      have d2 : decide (x ≤ hi) = true := by simpa using c2
      go_enter Tryz.func13, Tryz.ntmps13
      go_wp2
      go_ret
      exact ⟨rfl, rfl⟩
    · have e : inW lo hi x = false := by simp [inW]; omega
      rw [e]
      have d2 : decide (x ≤ hi) = false := by simpa using c2
      go_enter Tryz.func13, Tryz.ntmps13
      go_wp2
      go_ret
      exact ⟨rfl, rfl⟩
  · have e : inW lo hi x = false := by simp [inW]; omega
    rw [e]
    go_enter Tryz.func13, Tryz.ntmps13
    go_wp2
    go_ret
    exact ⟨rfl, rfl⟩
theorem isWithin_all (x lo hi : Int) (w : World) : Calls Tryz.prog 18 #[.int .i64 x, .int .i64 lo, .int .i64 hi] w fun r w' => r = .returned (.bool (inW lo hi x)) ∧ w' = w := by
  by_cases c1 : lo ≤ x
  · by_cases c2 : x ≤ hi
    · rw [inW_yes c1 c2]
      have d2 : decide (x ≤ hi) = true := by simpa using c2
      go_enter Tryz.func18, Tryz.ntmps18
      go_wp2
      go_ret
      exact ⟨rfl, rfl⟩
    · have e : inW lo hi x = false := by simp [inW]; omega
      rw [e]
      have d2 : decide (x ≤ hi) = false := by simpa using c2
      go_enter Tryz.func18, Tryz.ntmps18
      go_wp2
      go_ret
      exact ⟨rfl, rfl⟩
  · have e : inW lo hi x = false := by simp [inW]; omega
    rw [e]
    go_enter Tryz.func18, Tryz.ntmps18
    go_wp2
    go_ret
    exact ⟨rfl, rfl⟩
def rulesB (a0 a1 a2 a3 a4 : Int) : Bool := inW 1 1000000 a0 && inW 1 50 a1 && inW 1 1000 a2 && inW 0 1000000 a3 && inW 1 5 a4
def rulesC (a0 a1 a2 a3 a4 : Int) : Int := if rulesB a0 a1 a2 a3 a4 = true then 0 else 3
theorem rulesC_ok {a0 a1 a2 a3 a4 : Int} (h : rulesB a0 a1 a2 a3 a4 = true) : rulesC a0 a1 a2 a3 a4 = 0 := by rw [rulesC, if_pos h]
theorem rulesC_bad {a0 a1 a2 a3 a4 : Int} (h : rulesB a0 a1 a2 a3 a4 = false) : rulesC a0 a1 a2 a3 a4 = 3 := by rw [rulesC, if_neg (by rw [h]; decide)]
theorem rulesB_of {a0 a1 a2 a3 a4 : Int} (h : rulesB a0 a1 a2 a3 a4 = true) : (1 ≤ a0 ∧ a0 ≤ 1000000) ∧ (1 ≤ a1 ∧ a1 ≤ 50) ∧ (1 ≤ a2 ∧ a2 ≤ 1000) ∧ (0 ≤ a3 ∧ a3 ≤ 1000000) ∧ (1 ≤ a4 ∧ a4 ≤ 5) := by
  simp only [rulesB, Bool.and_eq_true] at h
  exact ⟨inW_of h.1.1.1.1, inW_of h.1.1.1.2, inW_of h.1.1.2, inW_of h.1.2, inW_of h.2⟩
end Go.Proofs.YthiiaefdobpjhaaGreatDoor
/-
  What is asked of an event, plainly.
-/
namespace Go.Proofs.YthiiaefdobpjhaaGreatDoor
open Go.ChangeShapes Go.WideShapes Go.ChangeAt Go.RowKit Go.Sort
def zeroB (fi fd fq fp ft fh : Bool) (qm qh qp : ByteArray) (ql : List Hdr) (rs : Int) (pl : List Hdr) (bl : List UInt8) (ei dr : Int) (tx : ByteArray) (hd : Bool) : Bool := (fq || (sameQ qm qh qp ql ⟨#[]⟩ ⟨#[]⟩ ⟨#[]⟩ [])) && (fp || (sameP rs pl bl 0 [] [])) && (fi || decide (ei = 0)) && (fd || decide (dr = 0)) && (ft || (tx.toList == (⟨#[]⟩ : ByteArray).toList)) && (fh || !hd)
def evZ (kd : Int) (qm qh qp : ByteArray) (ql : List Hdr) (rs : Int) (pl : List Hdr) (bl : List UInt8) (ei dr : Int) (tx : ByteArray) (hd : Bool) : Bool :=
  if kd = 1 then zeroB true true true false false false qm qh qp ql rs pl bl ei dr tx hd else
  if kd = 2 then zeroB true false false true false false qm qh qp ql rs pl bl ei dr tx hd else
  if kd = 3 ∨ kd = 4 then zeroB true false false false false false qm qh qp ql rs pl bl ei dr tx hd else
  if kd = 5 ∨ kd = 6 then zeroB false false false false true true qm qh qp ql rs pl bl ei dr tx hd else
  if kd = 7 then zeroB false false false false false true qm qh qp ql rs pl bl ei dr tx hd else false
def evC (kd ei dr : Int) (qm qh qp : ByteArray) (ql : List Hdr) (rs : Int) (pl : List Hdr) (bl : List UInt8) (tx : ByteArray) (hd : Bool) : Int :=
  if evZ kd qm qh qp ql rs pl bl ei dr tx hd = false then 1 else
  if ¬ (timeB ei = true ∧ inW 0 999 dr = true) then 3 else
  if kd = 1 then reqC qm qh qp ql else
  if kd = 2 then respC rs pl bl.length else
  if 500 < tx.size then 2 else 0
theorem sameHs_nil (l : List Hdr) : sameHs l [] = decide (l.length = 0) := by cases l <;> simp [sameHs]
theorem emp0 : (⟨#[]⟩ : ByteArray).toList = [] := Go.toList_nil_iff_emptyBytes _ |>.2 rfl
theorem emp (s : ByteArray) : (s.toList == (⟨#[]⟩ : ByteArray).toList) = s.toList.isEmpty := by rw [emp0]; cases s.toList <;> rfl
theorem emp_nil : ((⟨#[]⟩ : ByteArray).toList == (⟨#[]⟩ : ByteArray).toList) = true := by rw [emp0]; rfl
theorem bytes_nil (l : List UInt8) : ((⟨l.toArray⟩ : ByteArray).toList == (⟨([] : List UInt8).toArray⟩ : ByteArray).toList) = decide (l.length = 0) := by
  rw [show (⟨([] : List UInt8).toArray⟩ : ByteArray) = (⟨#[]⟩ : ByteArray) from rfl, emp]
  cases l with
  | nil => rw [show (⟨([] : List UInt8).toArray⟩ : ByteArray) = (⟨#[]⟩ : ByteArray) from rfl, emp0]; rfl
  | cons x l =>
    have h : ¬ (⟨(x :: l).toArray⟩ : ByteArray).toList = [] := fun h => by
      have := (Go.toList_nil_iff_emptyBytes _).1 h
      have := congrArg ByteArray.size this
      simp [ByteArray.size] at this
    cases hh : (⟨(x :: l).toArray⟩ : ByteArray).toList with
    | nil => exact absurd hh h
    | cons _ _ => simp
theorem sameQ_nil : sameQ (⟨#[]⟩ : ByteArray) (⟨#[]⟩ : ByteArray) (⟨#[]⟩ : ByteArray) [] (⟨#[]⟩ : ByteArray) (⟨#[]⟩ : ByteArray) (⟨#[]⟩ : ByteArray) [] = true := by unfold sameQ; rw [emp_nil]; rfl
theorem sameP_nil : sameP 0 [] [] 0 [] [] = true := by unfold sameP; rw [bytes_nil]; rfl
theorem zeroB_tx {fi fd fq fp fh : Bool} {qm qh qp : ByteArray} {ql : List Hdr} {rs : Int} {pl : List Hdr} {bl : List UInt8} {ei dr : Int} {tx : ByteArray} {hd : Bool} (h : zeroB fi fd fq fp false fh qm qh qp ql rs pl bl ei dr tx hd = true) : tx.size = 0 := by
  unfold zeroB at h
  rw [emp] at h
  simp only [Bool.and_eq_true, Bool.false_or] at h
  have h2 : tx.toList = [] := by simpa using h.1.2
  rw [(Go.toList_nil_iff_emptyBytes _).1 h2]
  rfl
end Go.Proofs.YthiiaefdobpjhaaGreatDoor
/-
  Outcomes in memory.
-/
namespace Go.Proofs.YthiiaefdobpjhaaGreatDoor
open Go.ChangeShapes Go.WideShapes Go.ChangeAt Go.RowKit
structure Mk where
  tm : Int
  gd : Bool
def MkAt (w : World) (b off : Nat) (l : List Mk) : Prop :=
  ∀ (i : Nat) r, l[i]? = some r → w.cell? ⟨b, off + i * 2, none⟩ = some (.int .i64 r.tm) ∧ w.cell? ⟨b, off + i * 2 + 1, none⟩ = some (.bool r.gd)
theorem MkAt.keep {w w' : World} {b off : Nat} {l : List Mk} (h : MkAt w b off l) (hb : Below w.heap.size w w') : MkAt w' b off l := by
  intro i r hr
  obtain ⟨p0, p1⟩ := h i r hr
  exact ⟨by rw [hb.cell (block_lt_of_cell p0)]; exact p0, by rw [hb.cell (block_lt_of_cell p1)]; exact p1⟩
/-- The slice at a holds l. -/
def MkIn (w : World) (a : Option Addr) (l : List Mk) : Prop := l = [] ∨ ∃ b off, a = some ⟨b, off, none⟩ ∧ MkAt w b off l
theorem MkIn.keep {w w' : World} {a : Option Addr} {l : List Mk} (h : MkIn w a l) (hb : Below w.heap.size w w') : MkIn w' a l := by
  rcases h with h | ⟨b, off, e, hat⟩
  · exact .inl h
  · exact .inr ⟨b, off, e, hat.keep hb⟩
theorem dropMk (l : List Mk) (k : Nat) (r : Mk) (h : l[k]? = some r) : l.drop k = r :: l.drop (k + 1) := by
  obtain ⟨hk, rfl⟩ := List.getElem?_eq_some_iff.1 h
  exact List.drop_eq_getElem_cons hk
def szMk (left : Int) (n : Nat) : Int := if left - (n : Int) < 0 then -1 else left - (n : Int)
theorem szMk_room {left : Int} {n : Nat} (h1 : left ≤ 1048576) (h : ¬ szMk left n < 0) : (n : Int) ≤ 1048576 ∧ szMk left n ≤ left ∧ 0 ≤ szMk left n := by
  unfold szMk at h ⊢
  by_cases c0 : left - (n : Int) < 0
  · rw [if_pos c0] at h; omega
  · rw [if_neg c0] at h ⊢; omega
end Go.Proofs.YthiiaefdobpjhaaGreatDoor
/-
  The laws' copy of a list, and their comparing of two.
-/
namespace Go.Proofs.YthiiaefdobpjhaaGreatDoor
open Go.ChangeShapes Go.WideShapes Go.ChangeAt Go.RowKit Go.Sort
/-- m cells from the head of block G on are there and may be written. -/
def RoomMk (w : World) (G m : Nat) : Prop := ∀ j, j < m → (∃ u, w.cell? ⟨G, j, none⟩ = some u) ∧ w.frozen? ⟨G, j, none⟩ = false
theorem RoomMk.keep {w w' : World} {G m : Nat} (h : RoomMk w G m) (hb : Below w.heap.size w w') : RoomMk w' G m := by
  intro j hj
  obtain ⟨⟨u, hu⟩, hf⟩ := h j hj
  exact ⟨⟨u, by rw [hb.cell (block_lt_of_cell hu)]; exact hu⟩, by rw [hb.frozen (block_lt_of_cell hu)]; exact hf⟩
theorem RoomMk.set {w : World} {G m : Nat} (h : RoomMk w G m) (a : Addr) (v : Value) : RoomMk (w.setCell a v) G m := by
  intro j hj
  obtain ⟨⟨u, hu⟩, hf⟩ := h j hj
  refine ⟨?_, by rw [World.frozen?_setCell]; exact hf⟩
  by_cases e : a = ⟨G, j, none⟩
  · exact ⟨v, by subst e; exact World.cell?_setCell_same _ _ _ hu⟩
  · exact ⟨u, by rw [World.cell?_setCell_other _ _ _ _ e]; exact hu⟩
def putMk (w : World) (G k : Nat) (r : Mk) : World := (w.setCell ⟨G, k * 2, none⟩ (.int .i64 r.tm)).setCell ⟨G, k * 2 + 1, none⟩ (.bool r.gd)
theorem offMk_ne {G i j : Nat} (h : i ≠ j) : (⟨G, i, none⟩ : Addr) ≠ ⟨G, j, none⟩ := fun e => h (congrArg Addr.off e)
theorem putMk_other (w : World) (G k : Nat) (r : Mk) (j : Nat) (h0 : k * 2 ≠ j) (h1 : k * 2 + 1 ≠ j) : (putMk w G k r).cell? ⟨G, j, none⟩ = w.cell? ⟨G, j, none⟩ := by
  unfold putMk
  rw [World.cell?_setCell_other _ _ _ _ (offMk_ne h1), World.cell?_setCell_other _ _ _ _ (offMk_ne h0)]
theorem RoomMk.put {w : World} {G m : Nat} (h : RoomMk w G m) (k : Nat) (r : Mk) : RoomMk (putMk w G k r) G m := (h.set _ _).set _ _
theorem MkAt.put {w : World} {G n : Nat} {l : List Mk} {k : Nat} {r : Mk} (h : MkAt w G 0 (l.take k)) (hr : l[k]? = some r) (hm : RoomMk w G (n * 2)) (hk : k < n) : MkAt (putMk w G k r) G 0 (l.take (k + 1)) := by
  intro i q hq
  have hi : i < k + 1 := by
    have := (List.getElem?_eq_some_iff.1 hq).1
    simp at this; omega
  rw [List.getElem?_take_of_lt hi] at hq
  simp only [Nat.zero_add]
  by_cases e : i = k
  · subst e
    rw [hr] at hq
    obtain rfl := Option.some.inj hq
    obtain ⟨⟨u0, g0⟩, _⟩ := hm (i * 2) (by omega)
    obtain ⟨⟨u1, g1⟩, _⟩ := (hm.set ⟨G, i * 2, none⟩ (.int .i64 r.tm)) (i * 2 + 1) (by omega)
    unfold putMk
    exact ⟨by rw [World.cell?_setCell_other _ _ _ _ (offMk_ne (by omega))]; exact World.cell?_setCell_same _ _ _ g0, by exact World.cell?_setCell_same _ _ _ g1⟩
  · have hq2 : (l.take k)[i]? = some q := by rw [List.getElem?_take_of_lt (by omega)]; exact hq
    obtain ⟨a0, a1⟩ := h i q hq2
    simp only [Nat.zero_add] at a0 a1
    exact ⟨by rw [putMk_other _ _ _ _ _ (by omega) (by omega)]; exact a0, by rw [putMk_other _ _ _ _ _ (by omega) (by omega)]; exact a1⟩
end Go.Proofs.YthiiaefdobpjhaaGreatDoor
/-
  What is asked of a breaker, in plain words.
-/
namespace Go.Proofs.YthiiaefdobpjhaaGreatDoor
open Go.ChangeShapes Go.WideShapes Go.ChangeAt Go.RowKit Go.Sort
def brkHB (s t o : Int) : Bool := inW 0 2 s && timeB t && inW 0 5 o
def timesM (l : List Mk) : Bool := l.all fun r => timeB r.tm
def sortedM : List Mk → Bool
  | [] => true
  | [_] => true
  | x :: y :: l => decide (x.tm ≤ y.tm) && sortedM (y :: l)
def stateB (s o : Int) (n : Nat) : Bool := (decide (n = 0) || decide (s = 0)) && (decide (o = 0) || decide (s = 2))
def brkC (s t o : Int) (l : List Mk) : Int := if brkHB s t o = false then 3 else if 60 < l.length then 2 else if timesM l = false then 3 else if sortedM l = false then 1 else if stateB s o l.length = false then 8 else 0
theorem sortedM_iff : ∀ l : List Mk, sortedM l = true ↔ ∀ (i : Nat) x y, l[i]? = some x → l[i + 1]? = some y → x.tm ≤ y.tm
  | [] => by simp [sortedM]
  | [z] => by
    simp only [sortedM, true_iff]
    intro i x y _ hy
    simp at hy
  | x :: y :: l => by
    rw [sortedM, Bool.and_eq_true, decide_eq_true_eq, sortedM_iff (y :: l)]
    constructor
    · rintro ⟨h0, h⟩ i u v hu hv
      cases i with
      | zero =>
        simp only [List.getElem?_cons_zero, Option.some.injEq, Nat.zero_add, List.getElem?_cons_succ] at hu hv
        subst hu; subst hv; exact h0
      | succ i => exact h i u v (by simpa using hu) (by simpa using hv)
    · intro h
      exact ⟨h 0 x y (by simp) (by simp), fun i u v hu hv => h (i + 1) u v (by simpa using hu) (by simpa using hv)⟩
theorem timesM_iff (l : List Mk) : timesM l = true ↔ ∀ (i : Nat) x, l[i]? = some x → timeB x.tm = true := by
  unfold timesM
  rw [List.all_eq_true]
  constructor
  · intro h i x hx
    exact h x (List.mem_of_getElem? hx)
  · intro h x hx
    obtain ⟨i, hi⟩ := List.getElem?_of_mem hx
    exact h i x hi
theorem timesM_no {l : List Mk} {i : Nat} {x : Mk} (hx : l[i]? = some x) (h : timeB x.tm = false) : timesM l = false := by
  cases e : timesM l with
  | false => rfl
  | true => rw [(timesM_iff l).1 e i x hx] at h; cases h
theorem sortedM_no {l : List Mk} {i : Nat} {x y : Mk} (hx : l[i]? = some x) (hy : l[i + 1]? = some y) (h : y.tm < x.tm) : sortedM l = false := by
  cases e : sortedM l with
  | false => rfl
  | true => have := (sortedM_iff l).1 e i x y hx hy; omega
theorem brkC_head {s t o : Int} {l : List Mk} (h : brkHB s t o = false) : brkC s t o l = 3 := by rw [brkC, if_pos h]
theorem brkC_many {s t o : Int} {l : List Mk} (h : brkHB s t o = true) (h2 : 60 < l.length) : brkC s t o l = 2 := by rw [brkC, if_neg (by rw [h]; decide), if_pos h2]
theorem brkC_time {s t o : Int} {l : List Mk} (h : brkHB s t o = true) (h2 : ¬ 60 < l.length) (h3 : timesM l = false) : brkC s t o l = 3 := by rw [brkC, if_neg (by rw [h]; decide), if_neg h2, if_pos h3]
theorem brkC_form {s t o : Int} {l : List Mk} (h : brkHB s t o = true) (h2 : ¬ 60 < l.length) (h3 : timesM l = true) (h4 : sortedM l = false) : brkC s t o l = 1 := by rw [brkC, if_neg (by rw [h]; decide), if_neg h2, if_neg (by rw [h3]; decide), if_pos h4]
theorem brkC_state {s t o : Int} {l : List Mk} (h : brkHB s t o = true) (h2 : ¬ 60 < l.length) (h3 : timesM l = true) (h4 : sortedM l = true) (h5 : stateB s o l.length = false) : brkC s t o l = 8 := by rw [brkC, if_neg (by rw [h]; decide), if_neg h2, if_neg (by rw [h3]; decide), if_neg (by rw [h4]; decide), if_pos h5]
theorem brkC_ok {s t o : Int} {l : List Mk} (h : brkHB s t o = true) (h2 : ¬ 60 < l.length) (h3 : timesM l = true) (h4 : sortedM l = true) (h5 : stateB s o l.length = true) : brkC s t o l = 0 := by rw [brkC, if_neg (by rw [h]; decide), if_neg h2, if_neg (by rw [h3]; decide), if_neg (by rw [h4]; decide), if_neg (by rw [h5]; decide)]
theorem brkC_of {s t o : Int} {l : List Mk} (h : brkC s t o l = 0) : brkHB s t o = true ∧ l.length ≤ 60 ∧ timesM l = true ∧ sortedM l = true ∧ stateB s o l.length = true := by
  unfold brkC at h
  split at h
  · cases h
  · split at h
    · cases h
    · split at h
      · cases h
      · split at h
        · cases h
        · split at h
          · cases h
          · rename_i h1 h2 h3 h4 h5
            exact ⟨by simpa using h1, by omega, by simpa using h3, by simpa using h4, by simpa using h5⟩
def badM (l : List Mk) : Nat := (l.filter fun r => !r.gd).length
theorem badM_le (l : List Mk) : badM l ≤ l.length := List.length_filter_le _ _
theorem badM_take {l : List Mk} {k : Nat} {r : Mk} (hr : l[k]? = some r) : badM (l.take (k + 1)) = badM (l.take k) + (if r.gd = true then 0 else 1) := by
  obtain ⟨hk, rfl⟩ := List.getElem?_eq_some_iff.1 hr
  rw [List.take_succ_eq_append_getElem hk, badM, badM, List.filter_append, List.length_append]
  cases h : l[k].gd <;> simp [List.filter, h]
end Go.Proofs.YthiiaefdobpjhaaGreatDoor
/-
  An event, asked by the model.
-/
namespace Go.Proofs.YthiiaefdobpjhaaGreatDoor
open Go.ChangeShapes Go.WideShapes Go.ChangeAt Go.RowKit Go.Sort
set_option linter.unusedSimpArgs false
set_option maxRecDepth 100000 in
set_option maxHeartbeats 8000000 in
theorem l15ZeroA_any (w : World) (B : Nat) (kd : Int) (qm qh qp : ByteArray) (ql : List Hdr) (rs : Int) (pl : List Hdr) (bl : List UInt8) (ei dr : Int) (tx : ByteArray) (hd : Bool) (qa pa pb : Option Addr) (qn qc pn pc bn bc : Nat) (hq : ql.length = qn) (hp : pl.length = pn) (hb : bl.length = bn) (hB : At B (B + 1) (Bx B [.int .i64 kd, .int .i64 ei, .int .i64 dr, .string qm, .string qh, .string qp, .slice qa qn qc, .int .i64 rs, .slice pa pn pc, .slice pb bn bc, .string tx, .bool hd]) w) :
    Calls Tryz.prog 11 #[.pointer (some ⟨B, 0, none⟩), .bool true, .bool true, .bool true, .bool false, .bool false, .bool false] w fun e w' => e = .returned (.bool (zeroB true true true false false false qm qh qp ql rs pl bl ei dr tx hd)) ∧ w' = w := by
  obtain ⟨R, hR⟩ : ∃ R, zeroB true true true false false false qm qh qp ql rs pl bl ei dr tx hd = R := ⟨_, rfl⟩
  rw [hR]
  unfold zeroB sameQ sameP at hR
  rw [bytes_nil bl, emp qm, emp qh, emp qp, emp tx, sameHs_nil ql, sameHs_nil pl, hq, hp, hb] at hR
  have HR := hidL hR
  clear hR hq hp hb
  have p0 := hB.val.1 0 _ rfl
  have p1 := hB.val.1 1 _ rfl
  have p2 := hB.val.1 2 _ rfl
  have p3 := hB.val.1 3 _ rfl
  have p4 := hB.val.1 4 _ rfl
  have p5 := hB.val.1 5 _ rfl
  have p6 := hB.val.1 6 _ rfl
  have p7 := hB.val.1 7 _ rfl
  have p8 := hB.val.1 8 _ rfl
  have p9 := hB.val.1 9 _ rfl
  have p10 := hB.val.1 10 _ rfl
  have p11 := hB.val.1 11 _ rfl
  clear hB
  by_cases hrs : rs = 0
  rotate_left
  · have grs : (rs == 0) = false := by simpa using hrs
    have hR := HR.out
    clear HR
    simp [hrs, grs] at hR
    subst hR
    go_enter Tryz.func11, Tryz.ntmps11
    go_wp2_with fail
    go_ret
    exact ⟨rfl, rfl⟩
  subst hrs
  by_cases hpn : pn = 0
  rotate_left
  · have gpn : (0 : Int) < (pn : Int) := by omega
    have hR := HR.out
    clear HR
    simp [hpn] at hR
    subst hR
    go_enter Tryz.func11, Tryz.ntmps11
    go_wp2_with fail
    go_ret
    exact ⟨rfl, rfl⟩
  subst hpn
  by_cases hbn : bn = 0
  rotate_left
  · have gbn : (0 : Int) < (bn : Int) := by omega
    have hR := HR.out
    clear HR
    simp [hbn] at hR
    subst hR
    go_enter Tryz.func11, Tryz.ntmps11
    go_wp2_with fail
    go_ret
    exact ⟨rfl, rfl⟩
  subst hbn
  cases htx : tx.toList.isEmpty
  · have hR := HR.out
    clear HR
    simp [htx] at hR
    subst hR
    go_enter Tryz.func11, Tryz.ntmps11
    go_wp2_with fail
    go_ret
    exact ⟨rfl, rfl⟩
  cases hhd : hd
  rotate_left
  · subst hhd
    have hR := HR.out
    clear HR
    simp [htx] at hR
    subst hR
    go_enter Tryz.func11, Tryz.ntmps11
    go_wp2_with fail
    go_ret
    exact ⟨rfl, rfl⟩
  subst hhd
  have hR := HR.out
  clear HR
  simp [htx] at hR
  subst hR
  go_enter Tryz.func11, Tryz.ntmps11
  go_wp2_with fail
  go_ret
  exact ⟨rfl, rfl⟩
set_option maxRecDepth 100000 in
set_option maxHeartbeats 8000000 in
theorem l15ZeroB_any (w : World) (B : Nat) (kd : Int) (qm qh qp : ByteArray) (ql : List Hdr) (rs : Int) (pl : List Hdr) (bl : List UInt8) (ei dr : Int) (tx : ByteArray) (hd : Bool) (qa pa pb : Option Addr) (qn qc pn pc bn bc : Nat) (hq : ql.length = qn) (hp : pl.length = pn) (hb : bl.length = bn) (hB : At B (B + 1) (Bx B [.int .i64 kd, .int .i64 ei, .int .i64 dr, .string qm, .string qh, .string qp, .slice qa qn qc, .int .i64 rs, .slice pa pn pc, .slice pb bn bc, .string tx, .bool hd]) w) :
    Calls Tryz.prog 11 #[.pointer (some ⟨B, 0, none⟩), .bool true, .bool false, .bool false, .bool true, .bool false, .bool false] w fun e w' => e = .returned (.bool (zeroB true false false true false false qm qh qp ql rs pl bl ei dr tx hd)) ∧ w' = w := by
  obtain ⟨R, hR⟩ : ∃ R, zeroB true false false true false false qm qh qp ql rs pl bl ei dr tx hd = R := ⟨_, rfl⟩
  rw [hR]
  unfold zeroB sameQ sameP at hR
  rw [bytes_nil bl, emp qm, emp qh, emp qp, emp tx, sameHs_nil ql, sameHs_nil pl, hq, hp, hb] at hR
  have HR := hidL hR
  clear hR hq hp hb
  have p0 := hB.val.1 0 _ rfl
  have p1 := hB.val.1 1 _ rfl
  have p2 := hB.val.1 2 _ rfl
  have p3 := hB.val.1 3 _ rfl
  have p4 := hB.val.1 4 _ rfl
  have p5 := hB.val.1 5 _ rfl
  have p6 := hB.val.1 6 _ rfl
  have p7 := hB.val.1 7 _ rfl
  have p8 := hB.val.1 8 _ rfl
  have p9 := hB.val.1 9 _ rfl
  have p10 := hB.val.1 10 _ rfl
  have p11 := hB.val.1 11 _ rfl
  clear hB
  cases hqm : qm.toList.isEmpty
  · have hR := HR.out
    clear HR
    simp [hqm] at hR
    subst hR
    go_enter Tryz.func11, Tryz.ntmps11
    go_wp2_with fail
    go_ret
    exact ⟨rfl, rfl⟩
  cases hqh : qh.toList.isEmpty
  · have hR := HR.out
    clear HR
    simp [hqm, hqh] at hR
    subst hR
    go_enter Tryz.func11, Tryz.ntmps11
    go_wp2_with fail
    go_ret
    exact ⟨rfl, rfl⟩
  cases hqp : qp.toList.isEmpty
  · have hR := HR.out
    clear HR
    simp [hqm, hqh, hqp] at hR
    subst hR
    go_enter Tryz.func11, Tryz.ntmps11
    go_wp2_with fail
    go_ret
    exact ⟨rfl, rfl⟩
  by_cases hqn : qn = 0
  rotate_left
  · have gqn : (0 : Int) < (qn : Int) := by omega
    have hR := HR.out
    clear HR
    simp [hqm, hqh, hqp, hqn] at hR
    subst hR
    go_enter Tryz.func11, Tryz.ntmps11
    go_wp2_with fail
    go_ret
    exact ⟨rfl, rfl⟩
  subst hqn
  by_cases hdr : dr = 0
  rotate_left
  · have gdr : (dr == 0) = false := by simpa using hdr
    have hR := HR.out
    clear HR
    simp [hqm, hqh, hqp, hdr, gdr] at hR
    subst hR
    go_enter Tryz.func11, Tryz.ntmps11
    go_wp2_with fail
    go_ret
    exact ⟨rfl, rfl⟩
  subst hdr
  cases htx : tx.toList.isEmpty
  · have hR := HR.out
    clear HR
    simp [hqm, hqh, hqp, htx] at hR
    subst hR
    go_enter Tryz.func11, Tryz.ntmps11
    go_wp2_with fail
    go_ret
    exact ⟨rfl, rfl⟩
  cases hhd : hd
  rotate_left
  · subst hhd
    have hR := HR.out
    clear HR
    simp [hqm, hqh, hqp, htx] at hR
    subst hR
    go_enter Tryz.func11, Tryz.ntmps11
    go_wp2_with fail
    go_ret
    exact ⟨rfl, rfl⟩
  subst hhd
  have hR := HR.out
  clear HR
  simp [hqm, hqh, hqp, htx] at hR
  subst hR
  go_enter Tryz.func11, Tryz.ntmps11
  go_wp2_with fail
  go_ret
  exact ⟨rfl, rfl⟩
set_option maxRecDepth 100000 in
set_option maxHeartbeats 8000000 in
theorem l15ZeroC_any (w : World) (B : Nat) (kd : Int) (qm qh qp : ByteArray) (ql : List Hdr) (rs : Int) (pl : List Hdr) (bl : List UInt8) (ei dr : Int) (tx : ByteArray) (hd : Bool) (qa pa pb : Option Addr) (qn qc pn pc bn bc : Nat) (hq : ql.length = qn) (hp : pl.length = pn) (hb : bl.length = bn) (hB : At B (B + 1) (Bx B [.int .i64 kd, .int .i64 ei, .int .i64 dr, .string qm, .string qh, .string qp, .slice qa qn qc, .int .i64 rs, .slice pa pn pc, .slice pb bn bc, .string tx, .bool hd]) w) :
    Calls Tryz.prog 11 #[.pointer (some ⟨B, 0, none⟩), .bool true, .bool false, .bool false, .bool false, .bool false, .bool false] w fun e w' => e = .returned (.bool (zeroB true false false false false false qm qh qp ql rs pl bl ei dr tx hd)) ∧ w' = w := by
  obtain ⟨R, hR⟩ : ∃ R, zeroB true false false false false false qm qh qp ql rs pl bl ei dr tx hd = R := ⟨_, rfl⟩
  rw [hR]
  unfold zeroB sameQ sameP at hR
  rw [bytes_nil bl, emp qm, emp qh, emp qp, emp tx, sameHs_nil ql, sameHs_nil pl, hq, hp, hb] at hR
  have HR := hidL hR
  clear hR hq hp hb
  have p0 := hB.val.1 0 _ rfl
  have p1 := hB.val.1 1 _ rfl
  have p2 := hB.val.1 2 _ rfl
  have p3 := hB.val.1 3 _ rfl
  have p4 := hB.val.1 4 _ rfl
  have p5 := hB.val.1 5 _ rfl
  have p6 := hB.val.1 6 _ rfl
  have p7 := hB.val.1 7 _ rfl
  have p8 := hB.val.1 8 _ rfl
  have p9 := hB.val.1 9 _ rfl
  have p10 := hB.val.1 10 _ rfl
  have p11 := hB.val.1 11 _ rfl
  clear hB
  cases hqm : qm.toList.isEmpty
  · have hR := HR.out
    clear HR
    simp [hqm] at hR
    subst hR
    go_enter Tryz.func11, Tryz.ntmps11
    go_wp2_with fail
    go_ret
    exact ⟨rfl, rfl⟩
  cases hqh : qh.toList.isEmpty
  · have hR := HR.out
    clear HR
    simp [hqm, hqh] at hR
    subst hR
    go_enter Tryz.func11, Tryz.ntmps11
    go_wp2_with fail
    go_ret
    exact ⟨rfl, rfl⟩
  cases hqp : qp.toList.isEmpty
  · have hR := HR.out
    clear HR
    simp [hqm, hqh, hqp] at hR
    subst hR
    go_enter Tryz.func11, Tryz.ntmps11
    go_wp2_with fail
    go_ret
    exact ⟨rfl, rfl⟩
  by_cases hqn : qn = 0
  rotate_left
  · have gqn : (0 : Int) < (qn : Int) := by omega
    have hR := HR.out
    clear HR
    simp [hqm, hqh, hqp, hqn] at hR
    subst hR
    go_enter Tryz.func11, Tryz.ntmps11
    go_wp2_with fail
    go_ret
    exact ⟨rfl, rfl⟩
  subst hqn
  by_cases hrs : rs = 0
  rotate_left
  · have grs : (rs == 0) = false := by simpa using hrs
    have hR := HR.out
    clear HR
    simp [hqm, hqh, hqp, hrs, grs] at hR
    subst hR
    go_enter Tryz.func11, Tryz.ntmps11
    go_wp2_with fail
    go_ret
    exact ⟨rfl, rfl⟩
  subst hrs
  by_cases hpn : pn = 0
  rotate_left
  · have gpn : (0 : Int) < (pn : Int) := by omega
    have hR := HR.out
    clear HR
    simp [hqm, hqh, hqp, hpn] at hR
    subst hR
    go_enter Tryz.func11, Tryz.ntmps11
    go_wp2_with fail
    go_ret
    exact ⟨rfl, rfl⟩
  subst hpn
  by_cases hbn : bn = 0
  rotate_left
  · have gbn : (0 : Int) < (bn : Int) := by omega
    have hR := HR.out
    clear HR
    simp [hqm, hqh, hqp, hbn] at hR
    subst hR
    go_enter Tryz.func11, Tryz.ntmps11
    go_wp2_with fail
    go_ret
    exact ⟨rfl, rfl⟩
  subst hbn
  by_cases hdr : dr = 0
  rotate_left
  · have gdr : (dr == 0) = false := by simpa using hdr
    have hR := HR.out
    clear HR
    simp [hqm, hqh, hqp, hdr, gdr] at hR
    subst hR
    go_enter Tryz.func11, Tryz.ntmps11
    go_wp2_with fail
    go_ret
    exact ⟨rfl, rfl⟩
  subst hdr
  cases htx : tx.toList.isEmpty
  · have hR := HR.out
    clear HR
    simp [hqm, hqh, hqp, htx] at hR
    subst hR
    go_enter Tryz.func11, Tryz.ntmps11
    go_wp2_with fail
    go_ret
    exact ⟨rfl, rfl⟩
  cases hhd : hd
  rotate_left
  · subst hhd
    have hR := HR.out
    clear HR
    simp [hqm, hqh, hqp, htx] at hR
    subst hR
    go_enter Tryz.func11, Tryz.ntmps11
    go_wp2_with fail
    go_ret
    exact ⟨rfl, rfl⟩
  subst hhd
  have hR := HR.out
  clear HR
  simp [hqm, hqh, hqp, htx] at hR
  subst hR
  go_enter Tryz.func11, Tryz.ntmps11
  go_wp2_with fail
  go_ret
  exact ⟨rfl, rfl⟩
set_option maxRecDepth 100000 in
set_option maxHeartbeats 8000000 in
theorem l15ZeroD_any (w : World) (B : Nat) (kd : Int) (qm qh qp : ByteArray) (ql : List Hdr) (rs : Int) (pl : List Hdr) (bl : List UInt8) (ei dr : Int) (tx : ByteArray) (hd : Bool) (qa pa pb : Option Addr) (qn qc pn pc bn bc : Nat) (hq : ql.length = qn) (hp : pl.length = pn) (hb : bl.length = bn) (hB : At B (B + 1) (Bx B [.int .i64 kd, .int .i64 ei, .int .i64 dr, .string qm, .string qh, .string qp, .slice qa qn qc, .int .i64 rs, .slice pa pn pc, .slice pb bn bc, .string tx, .bool hd]) w) :
    Calls Tryz.prog 11 #[.pointer (some ⟨B, 0, none⟩), .bool false, .bool false, .bool false, .bool false, .bool true, .bool true] w fun e w' => e = .returned (.bool (zeroB false false false false true true qm qh qp ql rs pl bl ei dr tx hd)) ∧ w' = w := by
  obtain ⟨R, hR⟩ : ∃ R, zeroB false false false false true true qm qh qp ql rs pl bl ei dr tx hd = R := ⟨_, rfl⟩
  rw [hR]
  unfold zeroB sameQ sameP at hR
  rw [bytes_nil bl, emp qm, emp qh, emp qp, emp tx, sameHs_nil ql, sameHs_nil pl, hq, hp, hb] at hR
  have HR := hidL hR
  clear hR hq hp hb
  have p0 := hB.val.1 0 _ rfl
  have p1 := hB.val.1 1 _ rfl
  have p2 := hB.val.1 2 _ rfl
  have p3 := hB.val.1 3 _ rfl
  have p4 := hB.val.1 4 _ rfl
  have p5 := hB.val.1 5 _ rfl
  have p6 := hB.val.1 6 _ rfl
  have p7 := hB.val.1 7 _ rfl
  have p8 := hB.val.1 8 _ rfl
  have p9 := hB.val.1 9 _ rfl
  have p10 := hB.val.1 10 _ rfl
  have p11 := hB.val.1 11 _ rfl
  clear hB
  cases hqm : qm.toList.isEmpty
  · have hR := HR.out
    clear HR
    simp [hqm] at hR
    subst hR
    go_enter Tryz.func11, Tryz.ntmps11
    go_wp2_with fail
    go_ret
    exact ⟨rfl, rfl⟩
  cases hqh : qh.toList.isEmpty
  · have hR := HR.out
    clear HR
    simp [hqm, hqh] at hR
    subst hR
    go_enter Tryz.func11, Tryz.ntmps11
    go_wp2_with fail
    go_ret
    exact ⟨rfl, rfl⟩
  cases hqp : qp.toList.isEmpty
  · have hR := HR.out
    clear HR
    simp [hqm, hqh, hqp] at hR
    subst hR
    go_enter Tryz.func11, Tryz.ntmps11
    go_wp2_with fail
    go_ret
    exact ⟨rfl, rfl⟩
  by_cases hqn : qn = 0
  rotate_left
  · have gqn : (0 : Int) < (qn : Int) := by omega
    have hR := HR.out
    clear HR
    simp [hqm, hqh, hqp, hqn] at hR
    subst hR
    go_enter Tryz.func11, Tryz.ntmps11
    go_wp2_with fail
    go_ret
    exact ⟨rfl, rfl⟩
  subst hqn
  by_cases hrs : rs = 0
  rotate_left
  · have grs : (rs == 0) = false := by simpa using hrs
    have hR := HR.out
    clear HR
    simp [hqm, hqh, hqp, hrs, grs] at hR
    subst hR
    go_enter Tryz.func11, Tryz.ntmps11
    go_wp2_with fail
    go_ret
    exact ⟨rfl, rfl⟩
  subst hrs
  by_cases hpn : pn = 0
  rotate_left
  · have gpn : (0 : Int) < (pn : Int) := by omega
    have hR := HR.out
    clear HR
    simp [hqm, hqh, hqp, hpn] at hR
    subst hR
    go_enter Tryz.func11, Tryz.ntmps11
    go_wp2_with fail
    go_ret
    exact ⟨rfl, rfl⟩
  subst hpn
  by_cases hbn : bn = 0
  rotate_left
  · have gbn : (0 : Int) < (bn : Int) := by omega
    have hR := HR.out
    clear HR
    simp [hqm, hqh, hqp, hbn] at hR
    subst hR
    go_enter Tryz.func11, Tryz.ntmps11
    go_wp2_with fail
    go_ret
    exact ⟨rfl, rfl⟩
  subst hbn
  by_cases hei : ei = 0
  rotate_left
  · have gei : (ei == 0) = false := by simpa using hei
    have hR := HR.out
    clear HR
    simp [hqm, hqh, hqp, hei, gei] at hR
    subst hR
    go_enter Tryz.func11, Tryz.ntmps11
    go_wp2_with fail
    go_ret
    exact ⟨rfl, rfl⟩
  subst hei
  by_cases hdr : dr = 0
  rotate_left
  · have gdr : (dr == 0) = false := by simpa using hdr
    have hR := HR.out
    clear HR
    simp [hqm, hqh, hqp, hdr, gdr] at hR
    subst hR
    go_enter Tryz.func11, Tryz.ntmps11
    go_wp2_with fail
    go_ret
    exact ⟨rfl, rfl⟩
  subst hdr
  have hR := HR.out
  clear HR
  simp [hqm, hqh, hqp] at hR
  subst hR
  go_enter Tryz.func11, Tryz.ntmps11
  go_wp2_with fail
  go_ret
  exact ⟨rfl, rfl⟩
set_option maxRecDepth 100000 in
set_option maxHeartbeats 8000000 in
theorem l15ZeroE_any (w : World) (B : Nat) (kd : Int) (qm qh qp : ByteArray) (ql : List Hdr) (rs : Int) (pl : List Hdr) (bl : List UInt8) (ei dr : Int) (tx : ByteArray) (hd : Bool) (qa pa pb : Option Addr) (qn qc pn pc bn bc : Nat) (hq : ql.length = qn) (hp : pl.length = pn) (hb : bl.length = bn) (hB : At B (B + 1) (Bx B [.int .i64 kd, .int .i64 ei, .int .i64 dr, .string qm, .string qh, .string qp, .slice qa qn qc, .int .i64 rs, .slice pa pn pc, .slice pb bn bc, .string tx, .bool hd]) w) :
    Calls Tryz.prog 11 #[.pointer (some ⟨B, 0, none⟩), .bool false, .bool false, .bool false, .bool false, .bool false, .bool true] w fun e w' => e = .returned (.bool (zeroB false false false false false true qm qh qp ql rs pl bl ei dr tx hd)) ∧ w' = w := by
  obtain ⟨R, hR⟩ : ∃ R, zeroB false false false false false true qm qh qp ql rs pl bl ei dr tx hd = R := ⟨_, rfl⟩
  rw [hR]
  unfold zeroB sameQ sameP at hR
  rw [bytes_nil bl, emp qm, emp qh, emp qp, emp tx, sameHs_nil ql, sameHs_nil pl, hq, hp, hb] at hR
  have HR := hidL hR
  clear hR hq hp hb
  have p0 := hB.val.1 0 _ rfl
  have p1 := hB.val.1 1 _ rfl
  have p2 := hB.val.1 2 _ rfl
  have p3 := hB.val.1 3 _ rfl
  have p4 := hB.val.1 4 _ rfl
  have p5 := hB.val.1 5 _ rfl
  have p6 := hB.val.1 6 _ rfl
  have p7 := hB.val.1 7 _ rfl
  have p8 := hB.val.1 8 _ rfl
  have p9 := hB.val.1 9 _ rfl
  have p10 := hB.val.1 10 _ rfl
  have p11 := hB.val.1 11 _ rfl
  clear hB
  cases hqm : qm.toList.isEmpty
  · have hR := HR.out
    clear HR
    simp [hqm] at hR
    subst hR
    go_enter Tryz.func11, Tryz.ntmps11
    go_wp2_with fail
    go_ret
    exact ⟨rfl, rfl⟩
  cases hqh : qh.toList.isEmpty
  · have hR := HR.out
    clear HR
    simp [hqm, hqh] at hR
    subst hR
    go_enter Tryz.func11, Tryz.ntmps11
    go_wp2_with fail
    go_ret
    exact ⟨rfl, rfl⟩
  cases hqp : qp.toList.isEmpty
  · have hR := HR.out
    clear HR
    simp [hqm, hqh, hqp] at hR
    subst hR
    go_enter Tryz.func11, Tryz.ntmps11
    go_wp2_with fail
    go_ret
    exact ⟨rfl, rfl⟩
  by_cases hqn : qn = 0
  rotate_left
  · have gqn : (0 : Int) < (qn : Int) := by omega
    have hR := HR.out
    clear HR
    simp [hqm, hqh, hqp, hqn] at hR
    subst hR
    go_enter Tryz.func11, Tryz.ntmps11
    go_wp2_with fail
    go_ret
    exact ⟨rfl, rfl⟩
  subst hqn
  by_cases hrs : rs = 0
  rotate_left
  · have grs : (rs == 0) = false := by simpa using hrs
    have hR := HR.out
    clear HR
    simp [hqm, hqh, hqp, hrs, grs] at hR
    subst hR
    go_enter Tryz.func11, Tryz.ntmps11
    go_wp2_with fail
    go_ret
    exact ⟨rfl, rfl⟩
  subst hrs
  by_cases hpn : pn = 0
  rotate_left
  · have gpn : (0 : Int) < (pn : Int) := by omega
    have hR := HR.out
    clear HR
    simp [hqm, hqh, hqp, hpn] at hR
    subst hR
    go_enter Tryz.func11, Tryz.ntmps11
    go_wp2_with fail
    go_ret
    exact ⟨rfl, rfl⟩
  subst hpn
  by_cases hbn : bn = 0
  rotate_left
  · have gbn : (0 : Int) < (bn : Int) := by omega
    have hR := HR.out
    clear HR
    simp [hqm, hqh, hqp, hbn] at hR
    subst hR
    go_enter Tryz.func11, Tryz.ntmps11
    go_wp2_with fail
    go_ret
    exact ⟨rfl, rfl⟩
  subst hbn
  by_cases hei : ei = 0
  rotate_left
  · have gei : (ei == 0) = false := by simpa using hei
    have hR := HR.out
    clear HR
    simp [hqm, hqh, hqp, hei, gei] at hR
    subst hR
    go_enter Tryz.func11, Tryz.ntmps11
    go_wp2_with fail
    go_ret
    exact ⟨rfl, rfl⟩
  subst hei
  by_cases hdr : dr = 0
  rotate_left
  · have gdr : (dr == 0) = false := by simpa using hdr
    have hR := HR.out
    clear HR
    simp [hqm, hqh, hqp, hdr, gdr] at hR
    subst hR
    go_enter Tryz.func11, Tryz.ntmps11
    go_wp2_with fail
    go_ret
    exact ⟨rfl, rfl⟩
  subst hdr
  cases htx : tx.toList.isEmpty
  · have hR := HR.out
    clear HR
    simp [hqm, hqh, hqp, htx] at hR
    subst hR
    go_enter Tryz.func11, Tryz.ntmps11
    go_wp2_with fail
    go_ret
    exact ⟨rfl, rfl⟩
  have hR := HR.out
  clear HR
  simp [hqm, hqh, hqp, htx] at hR
  subst hR
  go_enter Tryz.func11, Tryz.ntmps11
  go_wp2_with fail
  go_ret
  exact ⟨rfl, rfl⟩
end Go.Proofs.YthiiaefdobpjhaaGreatDoor
/-
  EventFault, by the model.
-/
namespace Go.Proofs.YthiiaefdobpjhaaGreatDoor
open Go.ChangeShapes Go.WideShapes Go.ChangeAt Go.RowKit Go.Sort
set_option linter.unusedSimpArgs false
set_option maxRecDepth 100000 in
set_option maxHeartbeats 32000000 in
theorem specEvt_any (w : World) (kd ei dr : Int) (qm qh qp : ByteArray) (qa : Option Addr) (qc : Nat) (ql : List Hdr) (rs : Int) (pa : Option Addr) (pc : Nat) (pb : Option Addr) (bc : Nat) (pl : List Hdr) (bl : List UInt8) (tx : ByteArray) (hd : Bool) (hl : ql.length ≤ 1048576) (pll : pl.length ≤ 1048576) (hbl : bl.length ≤ 1048576) (hi : HdsIn w qa ql) (hpi : HdsIn w pa pl) (_hib : BIn w pb bl) :
    Calls Tryz.prog 5 #[.agg #[.int .i64 kd, .int .i64 ei, .int .i64 dr, .string qm, .string qh, .string qp, .slice qa ql.length qc, .int .i64 rs, .slice pa pl.length pc, .slice pb bl.length bc, .string tx, .bool hd]] w fun e w' => e = .returned (.int .i64 (evC kd ei dr qm qh qp ql rs pl bl tx hd)) ∧ Below w.heap.size w w' := by
  obtain ⟨W, hW⟩ : ∃ W, W = w.alloc (.cells #[.int .i64 kd, .int .i64 ei, .int .i64 dr, .string qm, .string qh, .string qp, .slice qa ql.length qc, .int .i64 rs, .slice pa pl.length pc, .slice pb bl.length bc, .string tx, .bool hd] 38) := ⟨_, rfl⟩
  have HW := hidL hW
  have bW : Below w.heap.size w W := by rw [hW]; exact (Below.refl _ _).alloc (Nat.le_refl _) _
  have KW := hidL bW
  have FB := hidL (show At w.heap.size (w.heap.size + 1) (Bx w.heap.size [.int .i64 kd, .int .i64 ei, .int .i64 dr, .string qm, .string qh, .string qp, .slice qa ql.length qc, .int .i64 rs, .slice pa pl.length pc, .slice pb bl.length bc, .string tx, .bool hd]) W by rw [hW]; exact Bx.new _ [.int .i64 kd, .int .i64 ei, .int .i64 dr, .string qm, .string qh, .string qp, .slice qa ql.length qc, .int .i64 rs, .slice pa pl.length pc, .slice pb bl.length bc, .string tx, .bool hd] _)
  obtain ⟨qn, hqn⟩ : ∃ n, ql.length = n := ⟨_, rfl⟩
  obtain ⟨pn, hpn⟩ : ∃ n, pl.length = n := ⟨_, rfl⟩
  obtain ⟨bn, hbn⟩ : ∃ n, bl.length = n := ⟨_, rfl⟩
  have CQ : Hid (∀ X, Below w.heap.size w X → Calls Tryz.prog 14 #[.agg #[.string qm, .string qh, .string qp, .slice qa qn qc]] X fun e w' => e = .returned (.int .i64 (reqC qm qh qp ql)) ∧ Below X.heap.size X w') := fun X hX => hqn ▸ specReq_any X qm qh qp qa qc ql hl (hi.keep hX)
  have CP : Hid (∀ X, Below w.heap.size w X → Calls Tryz.prog 15 #[.agg #[.int .i64 rs, .slice pa pn pc, .slice pb bn bc]] X fun e w' => e = .returned (.int .i64 (respC rs pl bn)) ∧ Below X.heap.size X w') := fun X hX => hpn ▸ hbn ▸ specResp_any X rs pa pc pl pb bl.length bc pll hbl (hpi.keep hX)
  have CT : Hid (∀ x w, Calls Tryz.prog 12 #[.int .i64 x] w fun r w' => r = .returned (.bool (timeB x)) ∧ w' = w) := l1Time_all
  have CI : Hid (∀ x lo hi w, Calls Tryz.prog 13 #[.int .i64 x, .int .i64 lo, .int .i64 hi] w fun r w' => r = .returned (.bool (inW lo hi x)) ∧ w' = w) := l1In_all
  have CZA : Hid (∀ X, At w.heap.size (w.heap.size + 1) (Bx w.heap.size [.int .i64 kd, .int .i64 ei, .int .i64 dr, .string qm, .string qh, .string qp, .slice qa qn qc, .int .i64 rs, .slice pa pn pc, .slice pb bn bc, .string tx, .bool hd]) X → Calls Tryz.prog 11 #[.pointer (some ⟨w.heap.size, 0, none⟩), .bool true, .bool true, .bool true, .bool false, .bool false, .bool false] X fun e w' => e = .returned (.bool (zeroB true true true false false false qm qh qp ql rs pl bl ei dr tx hd)) ∧ w' = X) := fun X hX => l15ZeroA_any X w.heap.size kd qm qh qp ql rs pl bl ei dr tx hd qa pa pb qn qc pn pc bn bc hqn hpn hbn hX
  have CZB : Hid (∀ X, At w.heap.size (w.heap.size + 1) (Bx w.heap.size [.int .i64 kd, .int .i64 ei, .int .i64 dr, .string qm, .string qh, .string qp, .slice qa qn qc, .int .i64 rs, .slice pa pn pc, .slice pb bn bc, .string tx, .bool hd]) X → Calls Tryz.prog 11 #[.pointer (some ⟨w.heap.size, 0, none⟩), .bool true, .bool false, .bool false, .bool true, .bool false, .bool false] X fun e w' => e = .returned (.bool (zeroB true false false true false false qm qh qp ql rs pl bl ei dr tx hd)) ∧ w' = X) := fun X hX => l15ZeroB_any X w.heap.size kd qm qh qp ql rs pl bl ei dr tx hd qa pa pb qn qc pn pc bn bc hqn hpn hbn hX
  have CZC : Hid (∀ X, At w.heap.size (w.heap.size + 1) (Bx w.heap.size [.int .i64 kd, .int .i64 ei, .int .i64 dr, .string qm, .string qh, .string qp, .slice qa qn qc, .int .i64 rs, .slice pa pn pc, .slice pb bn bc, .string tx, .bool hd]) X → Calls Tryz.prog 11 #[.pointer (some ⟨w.heap.size, 0, none⟩), .bool true, .bool false, .bool false, .bool false, .bool false, .bool false] X fun e w' => e = .returned (.bool (zeroB true false false false false false qm qh qp ql rs pl bl ei dr tx hd)) ∧ w' = X) := fun X hX => l15ZeroC_any X w.heap.size kd qm qh qp ql rs pl bl ei dr tx hd qa pa pb qn qc pn pc bn bc hqn hpn hbn hX
  have CZD : Hid (∀ X, At w.heap.size (w.heap.size + 1) (Bx w.heap.size [.int .i64 kd, .int .i64 ei, .int .i64 dr, .string qm, .string qh, .string qp, .slice qa qn qc, .int .i64 rs, .slice pa pn pc, .slice pb bn bc, .string tx, .bool hd]) X → Calls Tryz.prog 11 #[.pointer (some ⟨w.heap.size, 0, none⟩), .bool false, .bool false, .bool false, .bool false, .bool true, .bool true] X fun e w' => e = .returned (.bool (zeroB false false false false true true qm qh qp ql rs pl bl ei dr tx hd)) ∧ w' = X) := fun X hX => l15ZeroD_any X w.heap.size kd qm qh qp ql rs pl bl ei dr tx hd qa pa pb qn qc pn pc bn bc hqn hpn hbn hX
  have CZE : Hid (∀ X, At w.heap.size (w.heap.size + 1) (Bx w.heap.size [.int .i64 kd, .int .i64 ei, .int .i64 dr, .string qm, .string qh, .string qp, .slice qa qn qc, .int .i64 rs, .slice pa pn pc, .slice pb bn bc, .string tx, .bool hd]) X → Calls Tryz.prog 11 #[.pointer (some ⟨w.heap.size, 0, none⟩), .bool false, .bool false, .bool false, .bool false, .bool false, .bool true] X fun e w' => e = .returned (.bool (zeroB false false false false false true qm qh qp ql rs pl bl ei dr tx hd)) ∧ w' = X) := fun X hX => l15ZeroE_any X w.heap.size kd qm qh qp ql rs pl bl ei dr tx hd qa pa pb qn qc pn pc bn bc hqn hpn hbn hX
  obtain ⟨Z, hZ⟩ : ∃ Z, evC kd ei dr qm qh qp ql rs pl bl tx hd = Z := ⟨_, rfl⟩
  rw [hZ]
  have HZ := hidL hZ
  rw [hqn, hpn, hbn] at HW FB ⊢
  unfold evC at HZ
  rw [hbn] at HZ
  clear hZ hW bW hqn hpn hbn hl pll hbl hi hpi _hib
  by_cases k1 : kd = 1
  · subst k1
    have hv : evZ 1 qm qh qp ql rs pl bl ei dr tx hd = zeroB true true true false false false qm qh qp ql rs pl bl ei dr tx hd := by unfold evZ; simp
    rw [hv] at HZ
    clear hv
    replace CZA := hidL (CZA.out W FB.out)
    clear CZB CZC CZD CZE
    generalize zeroB true true true false false false qm qh qp ql rs pl bl ei dr tx hd = zb at *
    go_enter Tryz.func5, Tryz.ntmps5
    go_upto_region 1 with fail
    rw [← HW.out]
    clear HW
    have p0 := FB.out.val.1 0 _ rfl
    have p1 := FB.out.val.1 1 _ rfl
    have p2 := FB.out.val.1 2 _ rfl
    have p3 := FB.out.val.1 3 _ rfl
    have p4 := FB.out.val.1 4 _ rfl
    have p5 := FB.out.val.1 5 _ rfl
    have p6 := FB.out.val.1 6 _ rfl
    have p7 := FB.out.val.1 7 _ rfl
    have p8 := FB.out.val.1 8 _ rfl
    have p9 := FB.out.val.1 9 _ rfl
    have p10 := FB.out.val.1 10 _ rfl
    have p11 := FB.out.val.1 11 _ rfl
    go_wp2_with fail
    refine CZA.out.mono ?_
    rintro e v0 ⟨rfl, rfl⟩
    cases hz : zb
    · have hZ := HZ.out
      simp [hz] at hZ
      subst hZ
      clear HZ
      go_wp2_with fail
      go_ret
      exact ⟨rfl, KW.out⟩
    go_wp2_with fail
    refine (CT.out ei _).mono ?_
    rintro e v3 ⟨rfl, rfl⟩
    cases ht : timeB ei
    · have hZ := HZ.out
      simp [hz, ht] at hZ
      subst hZ
      clear HZ
      go_wp2_with fail
      go_ret
      exact ⟨rfl, KW.out⟩
    go_wp2_with fail
    refine (CI.out dr 0 999 _).mono ?_
    rintro e v4 ⟨rfl, rfl⟩
    cases hn : inW 0 999 dr
    · have hZ := HZ.out
      simp [hz, ht, hn] at hZ
      subst hZ
      clear HZ
      go_wp2_with fail
      go_ret
      exact ⟨rfl, KW.out⟩
    have hZ := HZ.out
    simp [hz, ht, hn] at hZ
    subst hZ
    clear HZ
    go_wp2_with fail
    refine (CQ.out _ KW.out).mono ?_
    rintro e v5 ⟨rfl, hb⟩
    have K5 := hidL (KW.out.trans (hb.mono KW.out.size))
    clear hb
    go_wp2_with fail
    go_ret
    exact ⟨rfl, K5.out⟩
  by_cases k2 : kd = 2
  · subst k2
    have hv : evZ 2 qm qh qp ql rs pl bl ei dr tx hd = zeroB true false false true false false qm qh qp ql rs pl bl ei dr tx hd := by unfold evZ; simp
    rw [hv] at HZ
    clear hv
    replace CZB := hidL (CZB.out W FB.out)
    clear CZA CZC CZD CZE
    generalize zeroB true false false true false false qm qh qp ql rs pl bl ei dr tx hd = zb at *
    go_enter Tryz.func5, Tryz.ntmps5
    go_upto_region 1 with fail
    rw [← HW.out]
    clear HW
    have p0 := FB.out.val.1 0 _ rfl
    have p1 := FB.out.val.1 1 _ rfl
    have p2 := FB.out.val.1 2 _ rfl
    have p3 := FB.out.val.1 3 _ rfl
    have p4 := FB.out.val.1 4 _ rfl
    have p5 := FB.out.val.1 5 _ rfl
    have p6 := FB.out.val.1 6 _ rfl
    have p7 := FB.out.val.1 7 _ rfl
    have p8 := FB.out.val.1 8 _ rfl
    have p9 := FB.out.val.1 9 _ rfl
    have p10 := FB.out.val.1 10 _ rfl
    have p11 := FB.out.val.1 11 _ rfl
    go_wp2_with fail
    refine CZB.out.mono ?_
    rintro e v0 ⟨rfl, rfl⟩
    cases hz : zb
    · have hZ := HZ.out
      simp [hz] at hZ
      subst hZ
      clear HZ
      go_wp2_with fail
      go_ret
      exact ⟨rfl, KW.out⟩
    go_wp2_with fail
    refine (CT.out ei _).mono ?_
    rintro e v3 ⟨rfl, rfl⟩
    cases ht : timeB ei
    · have hZ := HZ.out
      simp [hz, ht] at hZ
      subst hZ
      clear HZ
      go_wp2_with fail
      go_ret
      exact ⟨rfl, KW.out⟩
    go_wp2_with fail
    refine (CI.out dr 0 999 _).mono ?_
    rintro e v4 ⟨rfl, rfl⟩
    cases hn : inW 0 999 dr
    · have hZ := HZ.out
      simp [hz, ht, hn] at hZ
      subst hZ
      clear HZ
      go_wp2_with fail
      go_ret
      exact ⟨rfl, KW.out⟩
    have hZ := HZ.out
    simp [hz, ht, hn] at hZ
    subst hZ
    clear HZ
    go_wp2_with fail
    refine (CP.out _ KW.out).mono ?_
    rintro e v5 ⟨rfl, hb⟩
    have K5 := hidL (KW.out.trans (hb.mono KW.out.size))
    clear hb
    go_wp2_with fail
    go_ret
    exact ⟨rfl, K5.out⟩
  by_cases k3 : kd = 3
  · subst k3
    have hv : evZ 3 qm qh qp ql rs pl bl ei dr tx hd = zeroB true false false false false false qm qh qp ql rs pl bl ei dr tx hd := by unfold evZ; simp
    rw [hv] at HZ
    clear hv
    replace CZC := hidL (CZC.out W FB.out)
    clear CZA CZB CZD CZE
    generalize zeroB true false false false false false qm qh qp ql rs pl bl ei dr tx hd = zb at *
    go_enter Tryz.func5, Tryz.ntmps5
    go_upto_region 1 with fail
    rw [← HW.out]
    clear HW
    have p0 := FB.out.val.1 0 _ rfl
    have p1 := FB.out.val.1 1 _ rfl
    have p2 := FB.out.val.1 2 _ rfl
    have p3 := FB.out.val.1 3 _ rfl
    have p4 := FB.out.val.1 4 _ rfl
    have p5 := FB.out.val.1 5 _ rfl
    have p6 := FB.out.val.1 6 _ rfl
    have p7 := FB.out.val.1 7 _ rfl
    have p8 := FB.out.val.1 8 _ rfl
    have p9 := FB.out.val.1 9 _ rfl
    have p10 := FB.out.val.1 10 _ rfl
    have p11 := FB.out.val.1 11 _ rfl
    go_wp2_with fail
    refine CZC.out.mono ?_
    rintro e v0 ⟨rfl, rfl⟩
    cases hz : zb
    · have hZ := HZ.out
      simp [hz] at hZ
      subst hZ
      clear HZ
      go_wp2_with fail
      go_ret
      exact ⟨rfl, KW.out⟩
    go_wp2_with fail
    refine (CT.out ei _).mono ?_
    rintro e v3 ⟨rfl, rfl⟩
    cases ht : timeB ei
    · have hZ := HZ.out
      simp [hz, ht] at hZ
      subst hZ
      clear HZ
      go_wp2_with fail
      go_ret
      exact ⟨rfl, KW.out⟩
    go_wp2_with fail
    refine (CI.out dr 0 999 _).mono ?_
    rintro e v4 ⟨rfl, rfl⟩
    cases hn : inW 0 999 dr
    · have hZ := HZ.out
      simp [hz, ht, hn] at hZ
      subst hZ
      clear HZ
      go_wp2_with fail
      go_ret
      exact ⟨rfl, KW.out⟩
    by_cases h5 : 500 < tx.size
    · have g : (500 : Int) < (tx.size : Int) := by omega
      have hZ := HZ.out
      simp [hz, ht, hn, h5] at hZ
      subst hZ
      clear HZ
      go_wp2_with fail
      go_ret
      exact ⟨rfl, KW.out⟩
    · have g : ¬ (500 : Int) < (tx.size : Int) := by omega
      have hZ := HZ.out
      simp [hz, ht, hn, h5] at hZ
      subst hZ
      clear HZ
      go_wp2_with fail
      go_ret
      exact ⟨rfl, KW.out⟩
  by_cases k4 : kd = 4
  · subst k4
    have hv : evZ 4 qm qh qp ql rs pl bl ei dr tx hd = zeroB true false false false false false qm qh qp ql rs pl bl ei dr tx hd := by unfold evZ; simp
    rw [hv] at HZ
    clear hv
    replace CZC := hidL (CZC.out W FB.out)
    clear CZA CZB CZD CZE
    generalize zeroB true false false false false false qm qh qp ql rs pl bl ei dr tx hd = zb at *
    go_enter Tryz.func5, Tryz.ntmps5
    go_upto_region 1 with fail
    rw [← HW.out]
    clear HW
    have p0 := FB.out.val.1 0 _ rfl
    have p1 := FB.out.val.1 1 _ rfl
    have p2 := FB.out.val.1 2 _ rfl
    have p3 := FB.out.val.1 3 _ rfl
    have p4 := FB.out.val.1 4 _ rfl
    have p5 := FB.out.val.1 5 _ rfl
    have p6 := FB.out.val.1 6 _ rfl
    have p7 := FB.out.val.1 7 _ rfl
    have p8 := FB.out.val.1 8 _ rfl
    have p9 := FB.out.val.1 9 _ rfl
    have p10 := FB.out.val.1 10 _ rfl
    have p11 := FB.out.val.1 11 _ rfl
    go_wp2_with fail
    refine CZC.out.mono ?_
    rintro e v0 ⟨rfl, rfl⟩
    cases hz : zb
    · have hZ := HZ.out
      simp [hz] at hZ
      subst hZ
      clear HZ
      go_wp2_with fail
      go_ret
      exact ⟨rfl, KW.out⟩
    go_wp2_with fail
    refine (CT.out ei _).mono ?_
    rintro e v3 ⟨rfl, rfl⟩
    cases ht : timeB ei
    · have hZ := HZ.out
      simp [hz, ht] at hZ
      subst hZ
      clear HZ
      go_wp2_with fail
      go_ret
      exact ⟨rfl, KW.out⟩
    go_wp2_with fail
    refine (CI.out dr 0 999 _).mono ?_
    rintro e v4 ⟨rfl, rfl⟩
    cases hn : inW 0 999 dr
    · have hZ := HZ.out
      simp [hz, ht, hn] at hZ
      subst hZ
      clear HZ
      go_wp2_with fail
      go_ret
      exact ⟨rfl, KW.out⟩
    by_cases h5 : 500 < tx.size
    · have g : (500 : Int) < (tx.size : Int) := by omega
      have hZ := HZ.out
      simp [hz, ht, hn, h5] at hZ
      subst hZ
      clear HZ
      go_wp2_with fail
      go_ret
      exact ⟨rfl, KW.out⟩
    · have g : ¬ (500 : Int) < (tx.size : Int) := by omega
      have hZ := HZ.out
      simp [hz, ht, hn, h5] at hZ
      subst hZ
      clear HZ
      go_wp2_with fail
      go_ret
      exact ⟨rfl, KW.out⟩
  by_cases k5 : kd = 5
  · subst k5
    have hv : evZ 5 qm qh qp ql rs pl bl ei dr tx hd = zeroB false false false false true true qm qh qp ql rs pl bl ei dr tx hd := by unfold evZ; simp
    rw [hv] at HZ
    clear hv
    replace CZD := hidL (CZD.out W FB.out)
    clear CZA CZB CZC CZE
    generalize zeroB false false false false true true qm qh qp ql rs pl bl ei dr tx hd = zb at *
    go_enter Tryz.func5, Tryz.ntmps5
    go_upto_region 1 with fail
    rw [← HW.out]
    clear HW
    have p0 := FB.out.val.1 0 _ rfl
    have p1 := FB.out.val.1 1 _ rfl
    have p2 := FB.out.val.1 2 _ rfl
    have p3 := FB.out.val.1 3 _ rfl
    have p4 := FB.out.val.1 4 _ rfl
    have p5 := FB.out.val.1 5 _ rfl
    have p6 := FB.out.val.1 6 _ rfl
    have p7 := FB.out.val.1 7 _ rfl
    have p8 := FB.out.val.1 8 _ rfl
    have p9 := FB.out.val.1 9 _ rfl
    have p10 := FB.out.val.1 10 _ rfl
    have p11 := FB.out.val.1 11 _ rfl
    go_wp2_with fail
    refine CZD.out.mono ?_
    rintro e v0 ⟨rfl, rfl⟩
    cases hz : zb
    · have hZ := HZ.out
      simp [hz] at hZ
      subst hZ
      clear HZ
      go_wp2_with fail
      go_ret
      exact ⟨rfl, KW.out⟩
    go_wp2_with fail
    refine (CT.out ei _).mono ?_
    rintro e v3 ⟨rfl, rfl⟩
    cases ht : timeB ei
    · have hZ := HZ.out
      simp [hz, ht] at hZ
      subst hZ
      clear HZ
      go_wp2_with fail
      go_ret
      exact ⟨rfl, KW.out⟩
    go_wp2_with fail
    refine (CI.out dr 0 999 _).mono ?_
    rintro e v4 ⟨rfl, rfl⟩
    cases hn : inW 0 999 dr
    · have hZ := HZ.out
      simp [hz, ht, hn] at hZ
      subst hZ
      clear HZ
      go_wp2_with fail
      go_ret
      exact ⟨rfl, KW.out⟩
    by_cases h5 : 500 < tx.size
    · have g : (500 : Int) < (tx.size : Int) := by omega
      have hZ := HZ.out
      simp [hz, ht, hn, h5] at hZ
      subst hZ
      clear HZ
      go_wp2_with fail
      go_ret
      exact ⟨rfl, KW.out⟩
    · have g : ¬ (500 : Int) < (tx.size : Int) := by omega
      have hZ := HZ.out
      simp [hz, ht, hn, h5] at hZ
      subst hZ
      clear HZ
      go_wp2_with fail
      go_ret
      exact ⟨rfl, KW.out⟩
  by_cases k6 : kd = 6
  · subst k6
    have hv : evZ 6 qm qh qp ql rs pl bl ei dr tx hd = zeroB false false false false true true qm qh qp ql rs pl bl ei dr tx hd := by unfold evZ; simp
    rw [hv] at HZ
    clear hv
    replace CZD := hidL (CZD.out W FB.out)
    clear CZA CZB CZC CZE
    generalize zeroB false false false false true true qm qh qp ql rs pl bl ei dr tx hd = zb at *
    go_enter Tryz.func5, Tryz.ntmps5
    go_upto_region 1 with fail
    rw [← HW.out]
    clear HW
    have p0 := FB.out.val.1 0 _ rfl
    have p1 := FB.out.val.1 1 _ rfl
    have p2 := FB.out.val.1 2 _ rfl
    have p3 := FB.out.val.1 3 _ rfl
    have p4 := FB.out.val.1 4 _ rfl
    have p5 := FB.out.val.1 5 _ rfl
    have p6 := FB.out.val.1 6 _ rfl
    have p7 := FB.out.val.1 7 _ rfl
    have p8 := FB.out.val.1 8 _ rfl
    have p9 := FB.out.val.1 9 _ rfl
    have p10 := FB.out.val.1 10 _ rfl
    have p11 := FB.out.val.1 11 _ rfl
    go_wp2_with fail
    refine CZD.out.mono ?_
    rintro e v0 ⟨rfl, rfl⟩
    cases hz : zb
    · have hZ := HZ.out
      simp [hz] at hZ
      subst hZ
      clear HZ
      go_wp2_with fail
      go_ret
      exact ⟨rfl, KW.out⟩
    go_wp2_with fail
    refine (CT.out ei _).mono ?_
    rintro e v3 ⟨rfl, rfl⟩
    cases ht : timeB ei
    · have hZ := HZ.out
      simp [hz, ht] at hZ
      subst hZ
      clear HZ
      go_wp2_with fail
      go_ret
      exact ⟨rfl, KW.out⟩
    go_wp2_with fail
    refine (CI.out dr 0 999 _).mono ?_
    rintro e v4 ⟨rfl, rfl⟩
    cases hn : inW 0 999 dr
    · have hZ := HZ.out
      simp [hz, ht, hn] at hZ
      subst hZ
      clear HZ
      go_wp2_with fail
      go_ret
      exact ⟨rfl, KW.out⟩
    by_cases h5 : 500 < tx.size
    · have g : (500 : Int) < (tx.size : Int) := by omega
      have hZ := HZ.out
      simp [hz, ht, hn, h5] at hZ
      subst hZ
      clear HZ
      go_wp2_with fail
      go_ret
      exact ⟨rfl, KW.out⟩
    · have g : ¬ (500 : Int) < (tx.size : Int) := by omega
      have hZ := HZ.out
      simp [hz, ht, hn, h5] at hZ
      subst hZ
      clear HZ
      go_wp2_with fail
      go_ret
      exact ⟨rfl, KW.out⟩
  by_cases k7 : kd = 7
  · subst k7
    have hv : evZ 7 qm qh qp ql rs pl bl ei dr tx hd = zeroB false false false false false true qm qh qp ql rs pl bl ei dr tx hd := by unfold evZ; simp
    rw [hv] at HZ
    clear hv
    replace CZE := hidL (CZE.out W FB.out)
    clear CZA CZB CZC CZD
    generalize zeroB false false false false false true qm qh qp ql rs pl bl ei dr tx hd = zb at *
    go_enter Tryz.func5, Tryz.ntmps5
    go_upto_region 1 with fail
    rw [← HW.out]
    clear HW
    have p0 := FB.out.val.1 0 _ rfl
    have p1 := FB.out.val.1 1 _ rfl
    have p2 := FB.out.val.1 2 _ rfl
    have p3 := FB.out.val.1 3 _ rfl
    have p4 := FB.out.val.1 4 _ rfl
    have p5 := FB.out.val.1 5 _ rfl
    have p6 := FB.out.val.1 6 _ rfl
    have p7 := FB.out.val.1 7 _ rfl
    have p8 := FB.out.val.1 8 _ rfl
    have p9 := FB.out.val.1 9 _ rfl
    have p10 := FB.out.val.1 10 _ rfl
    have p11 := FB.out.val.1 11 _ rfl
    go_wp2_with fail
    refine CZE.out.mono ?_
    rintro e v0 ⟨rfl, rfl⟩
    cases hz : zb
    · have hZ := HZ.out
      simp [hz] at hZ
      subst hZ
      clear HZ
      go_wp2_with fail
      go_ret
      exact ⟨rfl, KW.out⟩
    go_wp2_with fail
    refine (CT.out ei _).mono ?_
    rintro e v3 ⟨rfl, rfl⟩
    cases ht : timeB ei
    · have hZ := HZ.out
      simp [hz, ht] at hZ
      subst hZ
      clear HZ
      go_wp2_with fail
      go_ret
      exact ⟨rfl, KW.out⟩
    go_wp2_with fail
    refine (CI.out dr 0 999 _).mono ?_
    rintro e v4 ⟨rfl, rfl⟩
    cases hn : inW 0 999 dr
    · have hZ := HZ.out
      simp [hz, ht, hn] at hZ
      subst hZ
      clear HZ
      go_wp2_with fail
      go_ret
      exact ⟨rfl, KW.out⟩
    by_cases h5 : 500 < tx.size
    · have g : (500 : Int) < (tx.size : Int) := by omega
      have hZ := HZ.out
      simp [hz, ht, hn, h5] at hZ
      subst hZ
      clear HZ
      go_wp2_with fail
      go_ret
      exact ⟨rfl, KW.out⟩
    · have g : ¬ (500 : Int) < (tx.size : Int) := by omega
      have hZ := HZ.out
      simp [hz, ht, hn, h5] at hZ
      subst hZ
      clear HZ
      go_wp2_with fail
      go_ret
      exact ⟨rfl, KW.out⟩
  have n1 : (kd == 1) = false := by simpa using k1
  have n2 : (kd == 2) = false := by simpa using k2
  have n3 : (kd == 3) = false := by simpa using k3
  have n4 : (kd == 4) = false := by simpa using k4
  have n5 : (kd == 5) = false := by simpa using k5
  have n6 : (kd == 6) = false := by simpa using k6
  have n7 : (kd == 7) = false := by simpa using k7
  have hv : evZ kd qm qh qp ql rs pl bl ei dr tx hd = false := by unfold evZ; simp [k1, k2, k3, k4, k5, k6, k7]
  have hZ := HZ.out
  rw [hv] at hZ
  simp at hZ
  subst hZ
  go_enter Tryz.func5, Tryz.ntmps5
  go_upto_region 1 with fail
  rw [← HW.out]
  clear HW
  have p0 := FB.out.val.1 0 _ rfl
  go_wp2_with fail
  go_ret
  exact ⟨rfl, KW.out⟩
end Go.Proofs.YthiiaefdobpjhaaGreatDoor
/-
  An event without what its kind names, by the program.
-/
namespace Go.Proofs.YthiiaefdobpjhaaGreatDoor
open Go.ChangeShapes Go.WideShapes Go.ChangeAt Go.RowKit Go.Sort
set_option linter.unusedSimpArgs false
theorem results_bx {P : Program} {fn : Func} {s : Nat} {t : TypeId} {fs : _} {b : Nat} {vs : List Value} {X : World} {tmps : Array Value} (hf : fn.results = #[.cell s t]) (ht : P.underlying t = some (.struct fs)) (hz : (P.info? t).map (·.size) = some vs.length)
    (h1 : tmps.getD s undef = .pointer (some ⟨b, 0, none⟩)) (k1 : ∀ i v, vs[i]? = some v → X.cell? ⟨b, i, none⟩ = some v) : (results fn tmps).run P X = .ok (.agg vs.toArray) X := by
  have hL := loads_of (P := P) k1 rfl
  obtain ⟨inf, hi, hsz⟩ := Option.map_eq_some_iff.1 hz
  have h2 := h1
  rw [Array.getD_eq_getD_getElem?] at h2
  simp [results, hf, loadVar, isAgg, sizeOf, typeInfo, underlying, h1, h2, ht, hi, hsz, hL, go_sem]
set_option maxRecDepth 100000 in
set_option maxHeartbeats 8000000 in
theorem isZero_any (w : World) (kd ei dr : Int) (qm qh qp : ByteArray) (qa : Option Addr) (qc : Nat) (ql : List Hdr) (rs : Int) (pa : Option Addr) (pc : Nat) (pb : Option Addr) (bc : Nat) (pl : List Hdr) (bl : List UInt8) (tx : ByteArray) (hd : Bool) (hl : ql.length ≤ 1048576) (pll : pl.length ≤ 1048576) (hi : HdsIn w qa ql) (hpi : HdsIn w pa pl) (hib : BIn w pb bl) :
    Calls Tryz.prog 19 #[.agg #[.int .i64 kd, .int .i64 ei, .int .i64 dr, .string qm, .string qh, .string qp, .slice qa ql.length qc, .int .i64 rs, .slice pa pl.length pc, .slice pb bl.length bc, .string tx, .bool hd]] w fun e w' => e = .returned (.bool (zeroB false false false false false false qm qh qp ql rs pl bl ei dr tx hd)) ∧ Below w.heap.size w w' := by
  obtain ⟨W, hW⟩ : ∃ W, W = w.alloc (.cells #[.int .i64 kd, .int .i64 ei, .int .i64 dr, .string qm, .string qh, .string qp, .slice qa ql.length qc, .int .i64 rs, .slice pa pl.length pc, .slice pb bl.length bc, .string tx, .bool hd] 38) := ⟨_, rfl⟩
  have HW := hidL hW
  have bW : Below w.heap.size w W := by rw [hW]; exact (Below.refl _ _).alloc (Nat.le_refl _) _
  have KW := hidL bW
  have FB := hidL (show At w.heap.size (w.heap.size + 1) (Bx w.heap.size [.int .i64 kd, .int .i64 ei, .int .i64 dr, .string qm, .string qh, .string qp, .slice qa ql.length qc, .int .i64 rs, .slice pa pl.length pc, .slice pb bl.length bc, .string tx, .bool hd]) W by rw [hW]; exact Bx.new _ [.int .i64 kd, .int .i64 ei, .int .i64 dr, .string qm, .string qh, .string qp, .slice qa ql.length qc, .int .i64 rs, .slice pa pl.length pc, .slice pb bl.length bc, .string tx, .bool hd] _)
  have CQ : Hid (Calls Tryz.prog 33 #[.agg #[.string qm, .string qh, .string qp, .slice qa ql.length qc], .agg #[.string ⟨#[]⟩, .string ⟨#[]⟩, .string ⟨#[]⟩, .slice none 0 0]] W fun e w' => e = .returned (.bool (sameQ qm qh qp ql ⟨#[]⟩ ⟨#[]⟩ ⟨#[]⟩ [])) ∧ Below W.heap.size W w') := implSameQ_any W qm qh qp qa qc ql ⟨#[]⟩ ⟨#[]⟩ ⟨#[]⟩ none 0 [] hl (hi.keep bW) (.inl rfl)
  have CP : Hid (∀ X, Below w.heap.size w X → Calls Tryz.prog 34 #[.agg #[.int .i64 rs, .slice pa pl.length pc, .slice pb bl.length bc], .agg #[.int .i64 0, .slice none 0 0, .slice none 0 0]] X fun e w' => e = .returned (.bool (sameP rs pl bl 0 [] [])) ∧ Below X.heap.size X w') := fun X hX => implSameP_any X rs pa pc pl pb bc bl 0 none 0 [] none 0 [] pll (hpi.keep hX) (.inl rfl) (hib.keep hX) (.inl rfl)
  obtain ⟨R, hR⟩ : ∃ R, zeroB false false false false false false qm qh qp ql rs pl bl ei dr tx hd = R := ⟨_, rfl⟩
  rw [hR]
  unfold zeroB at hR
  rw [emp] at hR
  simp only [Bool.false_or] at hR
  have HR := hidL hR
  clear hR hW bW hl pll hi hpi hib
  generalize (sameQ qm qh qp ql ⟨#[]⟩ ⟨#[]⟩ ⟨#[]⟩ []) = zq at *
  generalize (sameP rs pl bl 0 [] []) = zp at *
  generalize ql.length = qn at *
  generalize pl.length = pn at *
  generalize bl.length = bn at *
  go_enter Tryz.func19, Tryz.ntmps19
  go_upto_region 1 with fail
  rw [← HW.out]
  clear HW
  have p0 := FB.out.val.1 0 _ rfl
  have p1 := FB.out.val.1 1 _ rfl
  have p2 := FB.out.val.1 2 _ rfl
  have p3 := FB.out.val.1 3 _ rfl
  have p4 := FB.out.val.1 4 _ rfl
  have p5 := FB.out.val.1 5 _ rfl
  have p6 := FB.out.val.1 6 _ rfl
  have p7 := FB.out.val.1 7 _ rfl
  have p8 := FB.out.val.1 8 _ rfl
  have p9 := FB.out.val.1 9 _ rfl
  have p10 := FB.out.val.1 10 _ rfl
  have p11 := FB.out.val.1 11 _ rfl
  by_cases hei : ei = 0
  rotate_left
  · have gei : (ei == 0) = false := by simpa using hei
    have hR := HR.out
    simp [hei] at hR
    subst hR
    clear HR
    go_wp2_with fail
    go_ret
    exact ⟨rfl, KW.out⟩
  subst hei
  by_cases hdr : dr = 0
  rotate_left
  · have gdr : (dr == 0) = false := by simpa using hdr
    have hR := HR.out
    simp [hdr] at hR
    subst hR
    clear HR
    go_wp2_with fail
    go_ret
    exact ⟨rfl, KW.out⟩
  subst hdr
  cases htx : tx.toList.isEmpty
  · have hR := HR.out
    simp [htx] at hR
    subst hR
    clear HR
    go_wp2_with fail
    go_ret
    exact ⟨rfl, KW.out⟩
  cases hhd : hd
  rotate_left
  · subst hhd
    have hR := HR.out
    simp [htx] at hR
    subst hR
    clear HR
    go_wp2_with fail
    go_ret
    exact ⟨rfl, KW.out⟩
  subst hhd
  go_wp2_with fail
  refine CQ.out.mono ?_
  rintro e w1 ⟨rfl, hb⟩
  have K1 := hidL (KW.out.trans (hb.mono KW.out.size))
  replace FB := hidL (FB.out.keep hb)
  clear hb CQ p0 p1 p2 p3 p4 p5 p6 p7 p8 p9 p10 p11
  have r7 := FB.out.val.1 7 _ rfl
  have r8 := FB.out.val.1 8 _ rfl
  have r9 := FB.out.val.1 9 _ rfl
  cases hzq : zq
  · have hR := HR.out
    simp [htx, hzq] at hR
    subst hR
    clear HR
    go_wp2_with fail
    go_ret
    exact ⟨rfl, K1.out⟩
  go_wp2_with fail
  refine (CP.out w1 K1.out).mono ?_
  rintro e w2 ⟨rfl, hb⟩
  have K2 := hidL (K1.out.trans (hb.mono K1.out.size))
  clear hb CP r7 r8 r9
  have hR := HR.out
  simp [htx, hzq] at hR
  subst hR
  clear HR
  go_wp2_with fail
  go_ret
  exact ⟨rfl, K2.out⟩
set_option maxRecDepth 100000 in
set_option maxHeartbeats 8000000 in
theorem without1_any (w : World) (ei dr : Int) (qm qh qp : ByteArray) (qa : Option Addr) (qn qc : Nat) (rs : Int) (pa : Option Addr) (pn pc : Nat) (pb : Option Addr) (bn bc : Nat) (tx : ByteArray) (hd : Bool) :
    Calls Tryz.prog 20 #[.agg #[.int .i64 1, .int .i64 ei, .int .i64 dr, .string qm, .string qh, .string qp, .slice qa qn qc, .int .i64 rs, .slice pa pn pc, .slice pb bn bc, .string tx, .bool hd]] w fun e w' => e = .returned (.agg #[.int .i64 1, .int .i64 0, .int .i64 0, .string ⟨#[]⟩, .string ⟨#[]⟩, .string ⟨#[]⟩, .slice none 0 0, .int .i64 rs, .slice pa pn pc, .slice pb bn bc, .string tx, .bool hd]) ∧ Below w.heap.size w w' := by
  obtain ⟨W, hW⟩ : ∃ W, W = (w.alloc (.cells #[.int .i64 1, .int .i64 ei, .int .i64 dr, .string qm, .string qh, .string qp, .slice qa qn qc, .int .i64 rs, .slice pa pn pc, .slice pb bn bc, .string tx, .bool hd] 38)).alloc (.cells #[.int .i64 0, .int .i64 0, .int .i64 0, .string ⟨#[]⟩, .string ⟨#[]⟩, .string ⟨#[]⟩, .slice none 0 0, .int .i64 0, .slice none 0 0, .slice none 0 0, .string ⟨#[]⟩, .bool false] 38) := ⟨_, rfl⟩
  have HW := hidL hW
  have KW := hidL (show Below w.heap.size w W by rw [hW]; exact ((Below.refl _ _).alloc (Nat.le_refl _) _).alloc (by simp) _)
  have FB := hidL (show At w.heap.size (w.heap.size + 1) (Bx w.heap.size [.int .i64 1, .int .i64 ei, .int .i64 dr, .string qm, .string qh, .string qp, .slice qa qn qc, .int .i64 rs, .slice pa pn pc, .slice pb bn bc, .string tx, .bool hd]) W by rw [hW]; exact (Bx.new _ [.int .i64 1, .int .i64 ei, .int .i64 dr, .string qm, .string qh, .string qp, .slice qa qn qc, .int .i64 rs, .slice pa pn pc, .slice pb bn bc, .string tx, .bool hd] _).al _)
  have FZ := hidL (show At (w.heap.size + 1) (w.heap.size + 1 + 1) (Bx (w.heap.size + 1) [.int .i64 0, .int .i64 0, .int .i64 0, .string ⟨#[]⟩, .string ⟨#[]⟩, .string ⟨#[]⟩, .slice none 0 0, .int .i64 0, .slice none 0 0, .slice none 0 0, .string ⟨#[]⟩, .bool false]) W by rw [hW]; exact Bx.newAt (by simp) [.int .i64 0, .int .i64 0, .int .i64 0, .string ⟨#[]⟩, .string ⟨#[]⟩, .string ⟨#[]⟩, .slice none 0 0, .int .i64 0, .slice none 0 0, .slice none 0 0, .string ⟨#[]⟩, .bool false] _)
  clear hW
  go_enter Tryz.func20, Tryz.ntmps20
  go_upto_region 1 with fail
  rw [← HW.out]
  clear HW
  have p0 := FB.out.val.1 0 _ rfl
  have f0 := FB.out.val.2 0
  have p1 := FB.out.val.1 1 _ rfl
  have f1 := FB.out.val.2 1
  have p2 := FB.out.val.1 2 _ rfl
  have f2 := FB.out.val.2 2
  have p3 := FB.out.val.1 3 _ rfl
  have f3 := FB.out.val.2 3
  have p4 := FB.out.val.1 4 _ rfl
  have f4 := FB.out.val.2 4
  have p5 := FB.out.val.1 5 _ rfl
  have f5 := FB.out.val.2 5
  have p6 := FB.out.val.1 6 _ rfl
  have f6 := FB.out.val.2 6
  have p7 := FB.out.val.1 7 _ rfl
  have f7 := FB.out.val.2 7
  have p8 := FB.out.val.1 8 _ rfl
  have f8 := FB.out.val.2 8
  have p9 := FB.out.val.1 9 _ rfl
  have f9 := FB.out.val.2 9
  have p10 := FB.out.val.1 10 _ rfl
  have f10 := FB.out.val.2 10
  have p11 := FB.out.val.1 11 _ rfl
  have f11 := FB.out.val.2 11
  obtain ⟨T, hT⟩ : ∃ T, T = ((((((W.setCell ⟨w.heap.size, 1, none⟩ (.int .i64 0)).setCell ⟨w.heap.size, 2, none⟩ (.int .i64 0)).setCell ⟨w.heap.size, 3, none⟩ (.string ⟨#[]⟩)).setCell ⟨w.heap.size, 4, none⟩ (.string ⟨#[]⟩)).setCell ⟨w.heap.size, 5, none⟩ (.string ⟨#[]⟩)).setCell ⟨w.heap.size, 6, none⟩ (.slice none 0 0)) := ⟨_, rfl⟩
  have FT := hidL (show At w.heap.size (w.heap.size + 1) (Bx w.heap.size [.int .i64 1, .int .i64 0, .int .i64 0, .string ⟨#[]⟩, .string ⟨#[]⟩, .string ⟨#[]⟩, .slice none 0 0, .int .i64 rs, .slice pa pn pc, .slice pb bn bc, .string tx, .bool hd]) T by rw [hT]; exact (Bx.put (Bx.put (Bx.put (Bx.put (Bx.put (Bx.put FB.out 1 (.int .i64 0) (by simp)) 2 (.int .i64 0) (by simp)) 3 (.string ⟨#[]⟩) (by simp)) 4 (.string ⟨#[]⟩) (by simp)) 5 (.string ⟨#[]⟩) (by simp)) 6 (.slice none 0 0) (by simp)))
  have FZT := hidL (show At (w.heap.size + 1) (w.heap.size + 1 + 1) (Bx (w.heap.size + 1) [.int .i64 0, .int .i64 0, .int .i64 0, .string ⟨#[]⟩, .string ⟨#[]⟩, .string ⟨#[]⟩, .slice none 0 0, .int .i64 0, .slice none 0 0, .slice none 0 0, .string ⟨#[]⟩, .bool false]) T by rw [hT]; exact ((((((FZ.out.set _ (by omega)).set _ (by omega)).set _ (by omega)).set _ (by omega)).set _ (by omega)).set _ (by omega)))
  have KT := hidL (show Below w.heap.size w T by rw [hT]; exact ((((((KW.out.setCell (Nat.le_refl _) _).setCell (Nat.le_refl _) _).setCell (Nat.le_refl _) _).setCell (Nat.le_refl _) _).setCell (Nat.le_refl _) _).setCell (Nat.le_refl _) _))
  have HT := hidL hT
  clear hT
  go_upto_region 14 with fail
  rw [← HT.out]
  clear HT KW FB FZ p0 f0 p1 f1 p2 f2 p3 f3 p4 f4 p5 f5 p6 f6 p7 f7 p8 f8 p9 f9 p10 f10 p11 f11
  refine wp_copyOut (b1 := w.heap.size) (b2 := w.heap.size + 1) (vs := [.int .i64 1, .int .i64 0, .int .i64 0, .string ⟨#[]⟩, .string ⟨#[]⟩, .string ⟨#[]⟩, .slice none 0 0, .int .i64 rs, .slice pa pn pc, .slice pb bn bc, .string tx, .bool hd]) (zs := [.int .i64 0, .int .i64 0, .int .i64 0, .string ⟨#[]⟩, .string ⟨#[]⟩, .string ⟨#[]⟩, .slice none 0 0, .int .i64 0, .slice none 0 0, .slice none 0 0, .string ⟨#[]⟩, .bool false]) Tryz.underlying38 evI_size rfl (fun _ => rfl) (fun _ => rfl) FT.out.val.1 FZT.out.val.1 FZT.out.val.2 rfl rfl ?_
  obtain ⟨VF, hVF⟩ : ∃ V, V = putAll T (w.heap.size + 1) 0 [.int .i64 1, .int .i64 0, .int .i64 0, .string ⟨#[]⟩, .string ⟨#[]⟩, .string ⟨#[]⟩, .slice none 0 0, .int .i64 rs, .slice pa pn pc, .slice pb bn bc, .string tx, .bool hd] := ⟨_, rfl⟩
  rw [← hVF]
  have R : At (w.heap.size + 1) (w.heap.size + 1 + 1) (Bx (w.heap.size + 1) [.int .i64 1, .int .i64 0, .int .i64 0, .string ⟨#[]⟩, .string ⟨#[]⟩, .string ⟨#[]⟩, .slice none 0 0, .int .i64 rs, .slice pa pn pc, .slice pb bn bc, .string tx, .bool hd]) VF := by rw [hVF]; exact Bx.putAll FZT.out [.int .i64 1, .int .i64 0, .int .i64 0, .string ⟨#[]⟩, .string ⟨#[]⟩, .string ⟨#[]⟩, .slice none 0 0, .int .i64 rs, .slice pa pn pc, .slice pb bn bc, .string tx, .bool hd] rfl
  have KF : Below w.heap.size w VF := by rw [hVF]; exact below_putAll (by omega) [.int .i64 1, .int .i64 0, .int .i64 0, .string ⟨#[]⟩, .string ⟨#[]⟩, .string ⟨#[]⟩, .slice none 0 0, .int .i64 rs, .slice pa pn pc, .slice pb bn bc, .string tx, .bool hd] 0 KT.out
  clear hVF KT FT FZT
  go_wp2_with fail
  refine bodyPost_ret (v := .agg #[.int .i64 1, .int .i64 0, .int .i64 0, .string ⟨#[]⟩, .string ⟨#[]⟩, .string ⟨#[]⟩, .slice none 0 0, .int .i64 rs, .slice pa pn pc, .slice pb bn bc, .string tx, .bool hd]) ?_ rfl ⟨rfl, KF⟩
  exact results_bx rfl Tryz.underlying38 evI_size rfl R.val.1
set_option maxRecDepth 100000 in
set_option maxHeartbeats 8000000 in
theorem without2_any (w : World) (ei dr : Int) (qm qh qp : ByteArray) (qa : Option Addr) (qn qc : Nat) (rs : Int) (pa : Option Addr) (pn pc : Nat) (pb : Option Addr) (bn bc : Nat) (tx : ByteArray) (hd : Bool) :
    Calls Tryz.prog 20 #[.agg #[.int .i64 2, .int .i64 ei, .int .i64 dr, .string qm, .string qh, .string qp, .slice qa qn qc, .int .i64 rs, .slice pa pn pc, .slice pb bn bc, .string tx, .bool hd]] w fun e w' => e = .returned (.agg #[.int .i64 2, .int .i64 0, .int .i64 dr, .string qm, .string qh, .string qp, .slice qa qn qc, .int .i64 0, .slice none 0 0, .slice none 0 0, .string tx, .bool hd]) ∧ Below w.heap.size w w' := by
  obtain ⟨W, hW⟩ : ∃ W, W = (w.alloc (.cells #[.int .i64 2, .int .i64 ei, .int .i64 dr, .string qm, .string qh, .string qp, .slice qa qn qc, .int .i64 rs, .slice pa pn pc, .slice pb bn bc, .string tx, .bool hd] 38)).alloc (.cells #[.int .i64 0, .int .i64 0, .int .i64 0, .string ⟨#[]⟩, .string ⟨#[]⟩, .string ⟨#[]⟩, .slice none 0 0, .int .i64 0, .slice none 0 0, .slice none 0 0, .string ⟨#[]⟩, .bool false] 38) := ⟨_, rfl⟩
  have HW := hidL hW
  have KW := hidL (show Below w.heap.size w W by rw [hW]; exact ((Below.refl _ _).alloc (Nat.le_refl _) _).alloc (by simp) _)
  have FB := hidL (show At w.heap.size (w.heap.size + 1) (Bx w.heap.size [.int .i64 2, .int .i64 ei, .int .i64 dr, .string qm, .string qh, .string qp, .slice qa qn qc, .int .i64 rs, .slice pa pn pc, .slice pb bn bc, .string tx, .bool hd]) W by rw [hW]; exact (Bx.new _ [.int .i64 2, .int .i64 ei, .int .i64 dr, .string qm, .string qh, .string qp, .slice qa qn qc, .int .i64 rs, .slice pa pn pc, .slice pb bn bc, .string tx, .bool hd] _).al _)
  have FZ := hidL (show At (w.heap.size + 1) (w.heap.size + 1 + 1) (Bx (w.heap.size + 1) [.int .i64 0, .int .i64 0, .int .i64 0, .string ⟨#[]⟩, .string ⟨#[]⟩, .string ⟨#[]⟩, .slice none 0 0, .int .i64 0, .slice none 0 0, .slice none 0 0, .string ⟨#[]⟩, .bool false]) W by rw [hW]; exact Bx.newAt (by simp) [.int .i64 0, .int .i64 0, .int .i64 0, .string ⟨#[]⟩, .string ⟨#[]⟩, .string ⟨#[]⟩, .slice none 0 0, .int .i64 0, .slice none 0 0, .slice none 0 0, .string ⟨#[]⟩, .bool false] _)
  clear hW
  go_enter Tryz.func20, Tryz.ntmps20
  go_upto_region 1 with fail
  rw [← HW.out]
  clear HW
  have p0 := FB.out.val.1 0 _ rfl
  have f0 := FB.out.val.2 0
  have p1 := FB.out.val.1 1 _ rfl
  have f1 := FB.out.val.2 1
  have p2 := FB.out.val.1 2 _ rfl
  have f2 := FB.out.val.2 2
  have p3 := FB.out.val.1 3 _ rfl
  have f3 := FB.out.val.2 3
  have p4 := FB.out.val.1 4 _ rfl
  have f4 := FB.out.val.2 4
  have p5 := FB.out.val.1 5 _ rfl
  have f5 := FB.out.val.2 5
  have p6 := FB.out.val.1 6 _ rfl
  have f6 := FB.out.val.2 6
  have p7 := FB.out.val.1 7 _ rfl
  have f7 := FB.out.val.2 7
  have p8 := FB.out.val.1 8 _ rfl
  have f8 := FB.out.val.2 8
  have p9 := FB.out.val.1 9 _ rfl
  have f9 := FB.out.val.2 9
  have p10 := FB.out.val.1 10 _ rfl
  have f10 := FB.out.val.2 10
  have p11 := FB.out.val.1 11 _ rfl
  have f11 := FB.out.val.2 11
  obtain ⟨T, hT⟩ : ∃ T, T = ((((W.setCell ⟨w.heap.size, 1, none⟩ (.int .i64 0)).setCell ⟨w.heap.size, 7, none⟩ (.int .i64 0)).setCell ⟨w.heap.size, 8, none⟩ (.slice none 0 0)).setCell ⟨w.heap.size, 9, none⟩ (.slice none 0 0)) := ⟨_, rfl⟩
  have FT := hidL (show At w.heap.size (w.heap.size + 1) (Bx w.heap.size [.int .i64 2, .int .i64 0, .int .i64 dr, .string qm, .string qh, .string qp, .slice qa qn qc, .int .i64 0, .slice none 0 0, .slice none 0 0, .string tx, .bool hd]) T by rw [hT]; exact (Bx.put (Bx.put (Bx.put (Bx.put FB.out 1 (.int .i64 0) (by simp)) 7 (.int .i64 0) (by simp)) 8 (.slice none 0 0) (by simp)) 9 (.slice none 0 0) (by simp)))
  have FZT := hidL (show At (w.heap.size + 1) (w.heap.size + 1 + 1) (Bx (w.heap.size + 1) [.int .i64 0, .int .i64 0, .int .i64 0, .string ⟨#[]⟩, .string ⟨#[]⟩, .string ⟨#[]⟩, .slice none 0 0, .int .i64 0, .slice none 0 0, .slice none 0 0, .string ⟨#[]⟩, .bool false]) T by rw [hT]; exact ((((FZ.out.set _ (by omega)).set _ (by omega)).set _ (by omega)).set _ (by omega)))
  have KT := hidL (show Below w.heap.size w T by rw [hT]; exact ((((KW.out.setCell (Nat.le_refl _) _).setCell (Nat.le_refl _) _).setCell (Nat.le_refl _) _).setCell (Nat.le_refl _) _))
  have HT := hidL hT
  clear hT
  go_upto_region 14 with fail
  rw [← HT.out]
  clear HT KW FB FZ p0 f0 p1 f1 p2 f2 p3 f3 p4 f4 p5 f5 p6 f6 p7 f7 p8 f8 p9 f9 p10 f10 p11 f11
  refine wp_copyOut (b1 := w.heap.size) (b2 := w.heap.size + 1) (vs := [.int .i64 2, .int .i64 0, .int .i64 dr, .string qm, .string qh, .string qp, .slice qa qn qc, .int .i64 0, .slice none 0 0, .slice none 0 0, .string tx, .bool hd]) (zs := [.int .i64 0, .int .i64 0, .int .i64 0, .string ⟨#[]⟩, .string ⟨#[]⟩, .string ⟨#[]⟩, .slice none 0 0, .int .i64 0, .slice none 0 0, .slice none 0 0, .string ⟨#[]⟩, .bool false]) Tryz.underlying38 evI_size rfl (fun _ => rfl) (fun _ => rfl) FT.out.val.1 FZT.out.val.1 FZT.out.val.2 rfl rfl ?_
  obtain ⟨VF, hVF⟩ : ∃ V, V = putAll T (w.heap.size + 1) 0 [.int .i64 2, .int .i64 0, .int .i64 dr, .string qm, .string qh, .string qp, .slice qa qn qc, .int .i64 0, .slice none 0 0, .slice none 0 0, .string tx, .bool hd] := ⟨_, rfl⟩
  rw [← hVF]
  have R : At (w.heap.size + 1) (w.heap.size + 1 + 1) (Bx (w.heap.size + 1) [.int .i64 2, .int .i64 0, .int .i64 dr, .string qm, .string qh, .string qp, .slice qa qn qc, .int .i64 0, .slice none 0 0, .slice none 0 0, .string tx, .bool hd]) VF := by rw [hVF]; exact Bx.putAll FZT.out [.int .i64 2, .int .i64 0, .int .i64 dr, .string qm, .string qh, .string qp, .slice qa qn qc, .int .i64 0, .slice none 0 0, .slice none 0 0, .string tx, .bool hd] rfl
  have KF : Below w.heap.size w VF := by rw [hVF]; exact below_putAll (by omega) [.int .i64 2, .int .i64 0, .int .i64 dr, .string qm, .string qh, .string qp, .slice qa qn qc, .int .i64 0, .slice none 0 0, .slice none 0 0, .string tx, .bool hd] 0 KT.out
  clear hVF KT FT FZT
  go_wp2_with fail
  refine bodyPost_ret (v := .agg #[.int .i64 2, .int .i64 0, .int .i64 dr, .string qm, .string qh, .string qp, .slice qa qn qc, .int .i64 0, .slice none 0 0, .slice none 0 0, .string tx, .bool hd]) ?_ rfl ⟨rfl, KF⟩
  exact results_bx rfl Tryz.underlying38 evI_size rfl R.val.1
set_option maxRecDepth 100000 in
set_option maxHeartbeats 8000000 in
theorem without3_any (w : World) (ei dr : Int) (qm qh qp : ByteArray) (qa : Option Addr) (qn qc : Nat) (rs : Int) (pa : Option Addr) (pn pc : Nat) (pb : Option Addr) (bn bc : Nat) (tx : ByteArray) (hd : Bool) :
    Calls Tryz.prog 20 #[.agg #[.int .i64 3, .int .i64 ei, .int .i64 dr, .string qm, .string qh, .string qp, .slice qa qn qc, .int .i64 rs, .slice pa pn pc, .slice pb bn bc, .string tx, .bool hd]] w fun e w' => e = .returned (.agg #[.int .i64 3, .int .i64 0, .int .i64 dr, .string qm, .string qh, .string qp, .slice qa qn qc, .int .i64 rs, .slice pa pn pc, .slice pb bn bc, .string tx, .bool hd]) ∧ Below w.heap.size w w' := by
  obtain ⟨W, hW⟩ : ∃ W, W = (w.alloc (.cells #[.int .i64 3, .int .i64 ei, .int .i64 dr, .string qm, .string qh, .string qp, .slice qa qn qc, .int .i64 rs, .slice pa pn pc, .slice pb bn bc, .string tx, .bool hd] 38)).alloc (.cells #[.int .i64 0, .int .i64 0, .int .i64 0, .string ⟨#[]⟩, .string ⟨#[]⟩, .string ⟨#[]⟩, .slice none 0 0, .int .i64 0, .slice none 0 0, .slice none 0 0, .string ⟨#[]⟩, .bool false] 38) := ⟨_, rfl⟩
  have HW := hidL hW
  have KW := hidL (show Below w.heap.size w W by rw [hW]; exact ((Below.refl _ _).alloc (Nat.le_refl _) _).alloc (by simp) _)
  have FB := hidL (show At w.heap.size (w.heap.size + 1) (Bx w.heap.size [.int .i64 3, .int .i64 ei, .int .i64 dr, .string qm, .string qh, .string qp, .slice qa qn qc, .int .i64 rs, .slice pa pn pc, .slice pb bn bc, .string tx, .bool hd]) W by rw [hW]; exact (Bx.new _ [.int .i64 3, .int .i64 ei, .int .i64 dr, .string qm, .string qh, .string qp, .slice qa qn qc, .int .i64 rs, .slice pa pn pc, .slice pb bn bc, .string tx, .bool hd] _).al _)
  have FZ := hidL (show At (w.heap.size + 1) (w.heap.size + 1 + 1) (Bx (w.heap.size + 1) [.int .i64 0, .int .i64 0, .int .i64 0, .string ⟨#[]⟩, .string ⟨#[]⟩, .string ⟨#[]⟩, .slice none 0 0, .int .i64 0, .slice none 0 0, .slice none 0 0, .string ⟨#[]⟩, .bool false]) W by rw [hW]; exact Bx.newAt (by simp) [.int .i64 0, .int .i64 0, .int .i64 0, .string ⟨#[]⟩, .string ⟨#[]⟩, .string ⟨#[]⟩, .slice none 0 0, .int .i64 0, .slice none 0 0, .slice none 0 0, .string ⟨#[]⟩, .bool false] _)
  clear hW
  go_enter Tryz.func20, Tryz.ntmps20
  go_upto_region 1 with fail
  rw [← HW.out]
  clear HW
  have p0 := FB.out.val.1 0 _ rfl
  have f0 := FB.out.val.2 0
  have p1 := FB.out.val.1 1 _ rfl
  have f1 := FB.out.val.2 1
  have p2 := FB.out.val.1 2 _ rfl
  have f2 := FB.out.val.2 2
  have p3 := FB.out.val.1 3 _ rfl
  have f3 := FB.out.val.2 3
  have p4 := FB.out.val.1 4 _ rfl
  have f4 := FB.out.val.2 4
  have p5 := FB.out.val.1 5 _ rfl
  have f5 := FB.out.val.2 5
  have p6 := FB.out.val.1 6 _ rfl
  have f6 := FB.out.val.2 6
  have p7 := FB.out.val.1 7 _ rfl
  have f7 := FB.out.val.2 7
  have p8 := FB.out.val.1 8 _ rfl
  have f8 := FB.out.val.2 8
  have p9 := FB.out.val.1 9 _ rfl
  have f9 := FB.out.val.2 9
  have p10 := FB.out.val.1 10 _ rfl
  have f10 := FB.out.val.2 10
  have p11 := FB.out.val.1 11 _ rfl
  have f11 := FB.out.val.2 11
  obtain ⟨T, hT⟩ : ∃ T, T = (W.setCell ⟨w.heap.size, 1, none⟩ (.int .i64 0)) := ⟨_, rfl⟩
  have FT := hidL (show At w.heap.size (w.heap.size + 1) (Bx w.heap.size [.int .i64 3, .int .i64 0, .int .i64 dr, .string qm, .string qh, .string qp, .slice qa qn qc, .int .i64 rs, .slice pa pn pc, .slice pb bn bc, .string tx, .bool hd]) T by rw [hT]; exact (Bx.put FB.out 1 (.int .i64 0) (by simp)))
  have FZT := hidL (show At (w.heap.size + 1) (w.heap.size + 1 + 1) (Bx (w.heap.size + 1) [.int .i64 0, .int .i64 0, .int .i64 0, .string ⟨#[]⟩, .string ⟨#[]⟩, .string ⟨#[]⟩, .slice none 0 0, .int .i64 0, .slice none 0 0, .slice none 0 0, .string ⟨#[]⟩, .bool false]) T by rw [hT]; exact (FZ.out.set _ (by omega)))
  have KT := hidL (show Below w.heap.size w T by rw [hT]; exact (KW.out.setCell (Nat.le_refl _) _))
  have HT := hidL hT
  clear hT
  go_upto_region 14 with fail
  rw [← HT.out]
  clear HT KW FB FZ p0 f0 p1 f1 p2 f2 p3 f3 p4 f4 p5 f5 p6 f6 p7 f7 p8 f8 p9 f9 p10 f10 p11 f11
  refine wp_copyOut (b1 := w.heap.size) (b2 := w.heap.size + 1) (vs := [.int .i64 3, .int .i64 0, .int .i64 dr, .string qm, .string qh, .string qp, .slice qa qn qc, .int .i64 rs, .slice pa pn pc, .slice pb bn bc, .string tx, .bool hd]) (zs := [.int .i64 0, .int .i64 0, .int .i64 0, .string ⟨#[]⟩, .string ⟨#[]⟩, .string ⟨#[]⟩, .slice none 0 0, .int .i64 0, .slice none 0 0, .slice none 0 0, .string ⟨#[]⟩, .bool false]) Tryz.underlying38 evI_size rfl (fun _ => rfl) (fun _ => rfl) FT.out.val.1 FZT.out.val.1 FZT.out.val.2 rfl rfl ?_
  obtain ⟨VF, hVF⟩ : ∃ V, V = putAll T (w.heap.size + 1) 0 [.int .i64 3, .int .i64 0, .int .i64 dr, .string qm, .string qh, .string qp, .slice qa qn qc, .int .i64 rs, .slice pa pn pc, .slice pb bn bc, .string tx, .bool hd] := ⟨_, rfl⟩
  rw [← hVF]
  have R : At (w.heap.size + 1) (w.heap.size + 1 + 1) (Bx (w.heap.size + 1) [.int .i64 3, .int .i64 0, .int .i64 dr, .string qm, .string qh, .string qp, .slice qa qn qc, .int .i64 rs, .slice pa pn pc, .slice pb bn bc, .string tx, .bool hd]) VF := by rw [hVF]; exact Bx.putAll FZT.out [.int .i64 3, .int .i64 0, .int .i64 dr, .string qm, .string qh, .string qp, .slice qa qn qc, .int .i64 rs, .slice pa pn pc, .slice pb bn bc, .string tx, .bool hd] rfl
  have KF : Below w.heap.size w VF := by rw [hVF]; exact below_putAll (by omega) [.int .i64 3, .int .i64 0, .int .i64 dr, .string qm, .string qh, .string qp, .slice qa qn qc, .int .i64 rs, .slice pa pn pc, .slice pb bn bc, .string tx, .bool hd] 0 KT.out
  clear hVF KT FT FZT
  go_wp2_with fail
  refine bodyPost_ret (v := .agg #[.int .i64 3, .int .i64 0, .int .i64 dr, .string qm, .string qh, .string qp, .slice qa qn qc, .int .i64 rs, .slice pa pn pc, .slice pb bn bc, .string tx, .bool hd]) ?_ rfl ⟨rfl, KF⟩
  exact results_bx rfl Tryz.underlying38 evI_size rfl R.val.1
set_option maxRecDepth 100000 in
set_option maxHeartbeats 8000000 in
theorem without4_any (w : World) (ei dr : Int) (qm qh qp : ByteArray) (qa : Option Addr) (qn qc : Nat) (rs : Int) (pa : Option Addr) (pn pc : Nat) (pb : Option Addr) (bn bc : Nat) (tx : ByteArray) (hd : Bool) :
    Calls Tryz.prog 20 #[.agg #[.int .i64 4, .int .i64 ei, .int .i64 dr, .string qm, .string qh, .string qp, .slice qa qn qc, .int .i64 rs, .slice pa pn pc, .slice pb bn bc, .string tx, .bool hd]] w fun e w' => e = .returned (.agg #[.int .i64 4, .int .i64 0, .int .i64 dr, .string qm, .string qh, .string qp, .slice qa qn qc, .int .i64 rs, .slice pa pn pc, .slice pb bn bc, .string tx, .bool hd]) ∧ Below w.heap.size w w' := by
  obtain ⟨W, hW⟩ : ∃ W, W = (w.alloc (.cells #[.int .i64 4, .int .i64 ei, .int .i64 dr, .string qm, .string qh, .string qp, .slice qa qn qc, .int .i64 rs, .slice pa pn pc, .slice pb bn bc, .string tx, .bool hd] 38)).alloc (.cells #[.int .i64 0, .int .i64 0, .int .i64 0, .string ⟨#[]⟩, .string ⟨#[]⟩, .string ⟨#[]⟩, .slice none 0 0, .int .i64 0, .slice none 0 0, .slice none 0 0, .string ⟨#[]⟩, .bool false] 38) := ⟨_, rfl⟩
  have HW := hidL hW
  have KW := hidL (show Below w.heap.size w W by rw [hW]; exact ((Below.refl _ _).alloc (Nat.le_refl _) _).alloc (by simp) _)
  have FB := hidL (show At w.heap.size (w.heap.size + 1) (Bx w.heap.size [.int .i64 4, .int .i64 ei, .int .i64 dr, .string qm, .string qh, .string qp, .slice qa qn qc, .int .i64 rs, .slice pa pn pc, .slice pb bn bc, .string tx, .bool hd]) W by rw [hW]; exact (Bx.new _ [.int .i64 4, .int .i64 ei, .int .i64 dr, .string qm, .string qh, .string qp, .slice qa qn qc, .int .i64 rs, .slice pa pn pc, .slice pb bn bc, .string tx, .bool hd] _).al _)
  have FZ := hidL (show At (w.heap.size + 1) (w.heap.size + 1 + 1) (Bx (w.heap.size + 1) [.int .i64 0, .int .i64 0, .int .i64 0, .string ⟨#[]⟩, .string ⟨#[]⟩, .string ⟨#[]⟩, .slice none 0 0, .int .i64 0, .slice none 0 0, .slice none 0 0, .string ⟨#[]⟩, .bool false]) W by rw [hW]; exact Bx.newAt (by simp) [.int .i64 0, .int .i64 0, .int .i64 0, .string ⟨#[]⟩, .string ⟨#[]⟩, .string ⟨#[]⟩, .slice none 0 0, .int .i64 0, .slice none 0 0, .slice none 0 0, .string ⟨#[]⟩, .bool false] _)
  clear hW
  go_enter Tryz.func20, Tryz.ntmps20
  go_upto_region 1 with fail
  rw [← HW.out]
  clear HW
  have p0 := FB.out.val.1 0 _ rfl
  have f0 := FB.out.val.2 0
  have p1 := FB.out.val.1 1 _ rfl
  have f1 := FB.out.val.2 1
  have p2 := FB.out.val.1 2 _ rfl
  have f2 := FB.out.val.2 2
  have p3 := FB.out.val.1 3 _ rfl
  have f3 := FB.out.val.2 3
  have p4 := FB.out.val.1 4 _ rfl
  have f4 := FB.out.val.2 4
  have p5 := FB.out.val.1 5 _ rfl
  have f5 := FB.out.val.2 5
  have p6 := FB.out.val.1 6 _ rfl
  have f6 := FB.out.val.2 6
  have p7 := FB.out.val.1 7 _ rfl
  have f7 := FB.out.val.2 7
  have p8 := FB.out.val.1 8 _ rfl
  have f8 := FB.out.val.2 8
  have p9 := FB.out.val.1 9 _ rfl
  have f9 := FB.out.val.2 9
  have p10 := FB.out.val.1 10 _ rfl
  have f10 := FB.out.val.2 10
  have p11 := FB.out.val.1 11 _ rfl
  have f11 := FB.out.val.2 11
  obtain ⟨T, hT⟩ : ∃ T, T = (W.setCell ⟨w.heap.size, 1, none⟩ (.int .i64 0)) := ⟨_, rfl⟩
  have FT := hidL (show At w.heap.size (w.heap.size + 1) (Bx w.heap.size [.int .i64 4, .int .i64 0, .int .i64 dr, .string qm, .string qh, .string qp, .slice qa qn qc, .int .i64 rs, .slice pa pn pc, .slice pb bn bc, .string tx, .bool hd]) T by rw [hT]; exact (Bx.put FB.out 1 (.int .i64 0) (by simp)))
  have FZT := hidL (show At (w.heap.size + 1) (w.heap.size + 1 + 1) (Bx (w.heap.size + 1) [.int .i64 0, .int .i64 0, .int .i64 0, .string ⟨#[]⟩, .string ⟨#[]⟩, .string ⟨#[]⟩, .slice none 0 0, .int .i64 0, .slice none 0 0, .slice none 0 0, .string ⟨#[]⟩, .bool false]) T by rw [hT]; exact (FZ.out.set _ (by omega)))
  have KT := hidL (show Below w.heap.size w T by rw [hT]; exact (KW.out.setCell (Nat.le_refl _) _))
  have HT := hidL hT
  clear hT
  go_upto_region 14 with fail
  rw [← HT.out]
  clear HT KW FB FZ p0 f0 p1 f1 p2 f2 p3 f3 p4 f4 p5 f5 p6 f6 p7 f7 p8 f8 p9 f9 p10 f10 p11 f11
  refine wp_copyOut (b1 := w.heap.size) (b2 := w.heap.size + 1) (vs := [.int .i64 4, .int .i64 0, .int .i64 dr, .string qm, .string qh, .string qp, .slice qa qn qc, .int .i64 rs, .slice pa pn pc, .slice pb bn bc, .string tx, .bool hd]) (zs := [.int .i64 0, .int .i64 0, .int .i64 0, .string ⟨#[]⟩, .string ⟨#[]⟩, .string ⟨#[]⟩, .slice none 0 0, .int .i64 0, .slice none 0 0, .slice none 0 0, .string ⟨#[]⟩, .bool false]) Tryz.underlying38 evI_size rfl (fun _ => rfl) (fun _ => rfl) FT.out.val.1 FZT.out.val.1 FZT.out.val.2 rfl rfl ?_
  obtain ⟨VF, hVF⟩ : ∃ V, V = putAll T (w.heap.size + 1) 0 [.int .i64 4, .int .i64 0, .int .i64 dr, .string qm, .string qh, .string qp, .slice qa qn qc, .int .i64 rs, .slice pa pn pc, .slice pb bn bc, .string tx, .bool hd] := ⟨_, rfl⟩
  rw [← hVF]
  have R : At (w.heap.size + 1) (w.heap.size + 1 + 1) (Bx (w.heap.size + 1) [.int .i64 4, .int .i64 0, .int .i64 dr, .string qm, .string qh, .string qp, .slice qa qn qc, .int .i64 rs, .slice pa pn pc, .slice pb bn bc, .string tx, .bool hd]) VF := by rw [hVF]; exact Bx.putAll FZT.out [.int .i64 4, .int .i64 0, .int .i64 dr, .string qm, .string qh, .string qp, .slice qa qn qc, .int .i64 rs, .slice pa pn pc, .slice pb bn bc, .string tx, .bool hd] rfl
  have KF : Below w.heap.size w VF := by rw [hVF]; exact below_putAll (by omega) [.int .i64 4, .int .i64 0, .int .i64 dr, .string qm, .string qh, .string qp, .slice qa qn qc, .int .i64 rs, .slice pa pn pc, .slice pb bn bc, .string tx, .bool hd] 0 KT.out
  clear hVF KT FT FZT
  go_wp2_with fail
  refine bodyPost_ret (v := .agg #[.int .i64 4, .int .i64 0, .int .i64 dr, .string qm, .string qh, .string qp, .slice qa qn qc, .int .i64 rs, .slice pa pn pc, .slice pb bn bc, .string tx, .bool hd]) ?_ rfl ⟨rfl, KF⟩
  exact results_bx rfl Tryz.underlying38 evI_size rfl R.val.1
set_option maxRecDepth 100000 in
set_option maxHeartbeats 8000000 in
theorem without5_any (w : World) (ei dr : Int) (qm qh qp : ByteArray) (qa : Option Addr) (qn qc : Nat) (rs : Int) (pa : Option Addr) (pn pc : Nat) (pb : Option Addr) (bn bc : Nat) (tx : ByteArray) (hd : Bool) :
    Calls Tryz.prog 20 #[.agg #[.int .i64 5, .int .i64 ei, .int .i64 dr, .string qm, .string qh, .string qp, .slice qa qn qc, .int .i64 rs, .slice pa pn pc, .slice pb bn bc, .string tx, .bool hd]] w fun e w' => e = .returned (.agg #[.int .i64 5, .int .i64 ei, .int .i64 dr, .string qm, .string qh, .string qp, .slice qa qn qc, .int .i64 rs, .slice pa pn pc, .slice pb bn bc, .string ⟨#[]⟩, .bool false]) ∧ Below w.heap.size w w' := by
  obtain ⟨W, hW⟩ : ∃ W, W = (w.alloc (.cells #[.int .i64 5, .int .i64 ei, .int .i64 dr, .string qm, .string qh, .string qp, .slice qa qn qc, .int .i64 rs, .slice pa pn pc, .slice pb bn bc, .string tx, .bool hd] 38)).alloc (.cells #[.int .i64 0, .int .i64 0, .int .i64 0, .string ⟨#[]⟩, .string ⟨#[]⟩, .string ⟨#[]⟩, .slice none 0 0, .int .i64 0, .slice none 0 0, .slice none 0 0, .string ⟨#[]⟩, .bool false] 38) := ⟨_, rfl⟩
  have HW := hidL hW
  have KW := hidL (show Below w.heap.size w W by rw [hW]; exact ((Below.refl _ _).alloc (Nat.le_refl _) _).alloc (by simp) _)
  have FB := hidL (show At w.heap.size (w.heap.size + 1) (Bx w.heap.size [.int .i64 5, .int .i64 ei, .int .i64 dr, .string qm, .string qh, .string qp, .slice qa qn qc, .int .i64 rs, .slice pa pn pc, .slice pb bn bc, .string tx, .bool hd]) W by rw [hW]; exact (Bx.new _ [.int .i64 5, .int .i64 ei, .int .i64 dr, .string qm, .string qh, .string qp, .slice qa qn qc, .int .i64 rs, .slice pa pn pc, .slice pb bn bc, .string tx, .bool hd] _).al _)
  have FZ := hidL (show At (w.heap.size + 1) (w.heap.size + 1 + 1) (Bx (w.heap.size + 1) [.int .i64 0, .int .i64 0, .int .i64 0, .string ⟨#[]⟩, .string ⟨#[]⟩, .string ⟨#[]⟩, .slice none 0 0, .int .i64 0, .slice none 0 0, .slice none 0 0, .string ⟨#[]⟩, .bool false]) W by rw [hW]; exact Bx.newAt (by simp) [.int .i64 0, .int .i64 0, .int .i64 0, .string ⟨#[]⟩, .string ⟨#[]⟩, .string ⟨#[]⟩, .slice none 0 0, .int .i64 0, .slice none 0 0, .slice none 0 0, .string ⟨#[]⟩, .bool false] _)
  clear hW
  go_enter Tryz.func20, Tryz.ntmps20
  go_upto_region 1 with fail
  rw [← HW.out]
  clear HW
  have p0 := FB.out.val.1 0 _ rfl
  have f0 := FB.out.val.2 0
  have p1 := FB.out.val.1 1 _ rfl
  have f1 := FB.out.val.2 1
  have p2 := FB.out.val.1 2 _ rfl
  have f2 := FB.out.val.2 2
  have p3 := FB.out.val.1 3 _ rfl
  have f3 := FB.out.val.2 3
  have p4 := FB.out.val.1 4 _ rfl
  have f4 := FB.out.val.2 4
  have p5 := FB.out.val.1 5 _ rfl
  have f5 := FB.out.val.2 5
  have p6 := FB.out.val.1 6 _ rfl
  have f6 := FB.out.val.2 6
  have p7 := FB.out.val.1 7 _ rfl
  have f7 := FB.out.val.2 7
  have p8 := FB.out.val.1 8 _ rfl
  have f8 := FB.out.val.2 8
  have p9 := FB.out.val.1 9 _ rfl
  have f9 := FB.out.val.2 9
  have p10 := FB.out.val.1 10 _ rfl
  have f10 := FB.out.val.2 10
  have p11 := FB.out.val.1 11 _ rfl
  have f11 := FB.out.val.2 11
  obtain ⟨T, hT⟩ : ∃ T, T = ((W.setCell ⟨w.heap.size, 10, none⟩ (.string ⟨#[]⟩)).setCell ⟨w.heap.size, 11, none⟩ (.bool false)) := ⟨_, rfl⟩
  have FT := hidL (show At w.heap.size (w.heap.size + 1) (Bx w.heap.size [.int .i64 5, .int .i64 ei, .int .i64 dr, .string qm, .string qh, .string qp, .slice qa qn qc, .int .i64 rs, .slice pa pn pc, .slice pb bn bc, .string ⟨#[]⟩, .bool false]) T by rw [hT]; exact (Bx.put (Bx.put FB.out 10 (.string ⟨#[]⟩) (by simp)) 11 (.bool false) (by simp)))
  have FZT := hidL (show At (w.heap.size + 1) (w.heap.size + 1 + 1) (Bx (w.heap.size + 1) [.int .i64 0, .int .i64 0, .int .i64 0, .string ⟨#[]⟩, .string ⟨#[]⟩, .string ⟨#[]⟩, .slice none 0 0, .int .i64 0, .slice none 0 0, .slice none 0 0, .string ⟨#[]⟩, .bool false]) T by rw [hT]; exact ((FZ.out.set _ (by omega)).set _ (by omega)))
  have KT := hidL (show Below w.heap.size w T by rw [hT]; exact ((KW.out.setCell (Nat.le_refl _) _).setCell (Nat.le_refl _) _))
  have HT := hidL hT
  clear hT
  go_upto_region 14 with fail
  rw [← HT.out]
  clear HT KW FB FZ p0 f0 p1 f1 p2 f2 p3 f3 p4 f4 p5 f5 p6 f6 p7 f7 p8 f8 p9 f9 p10 f10 p11 f11
  refine wp_copyOut (b1 := w.heap.size) (b2 := w.heap.size + 1) (vs := [.int .i64 5, .int .i64 ei, .int .i64 dr, .string qm, .string qh, .string qp, .slice qa qn qc, .int .i64 rs, .slice pa pn pc, .slice pb bn bc, .string ⟨#[]⟩, .bool false]) (zs := [.int .i64 0, .int .i64 0, .int .i64 0, .string ⟨#[]⟩, .string ⟨#[]⟩, .string ⟨#[]⟩, .slice none 0 0, .int .i64 0, .slice none 0 0, .slice none 0 0, .string ⟨#[]⟩, .bool false]) Tryz.underlying38 evI_size rfl (fun _ => rfl) (fun _ => rfl) FT.out.val.1 FZT.out.val.1 FZT.out.val.2 rfl rfl ?_
  obtain ⟨VF, hVF⟩ : ∃ V, V = putAll T (w.heap.size + 1) 0 [.int .i64 5, .int .i64 ei, .int .i64 dr, .string qm, .string qh, .string qp, .slice qa qn qc, .int .i64 rs, .slice pa pn pc, .slice pb bn bc, .string ⟨#[]⟩, .bool false] := ⟨_, rfl⟩
  rw [← hVF]
  have R : At (w.heap.size + 1) (w.heap.size + 1 + 1) (Bx (w.heap.size + 1) [.int .i64 5, .int .i64 ei, .int .i64 dr, .string qm, .string qh, .string qp, .slice qa qn qc, .int .i64 rs, .slice pa pn pc, .slice pb bn bc, .string ⟨#[]⟩, .bool false]) VF := by rw [hVF]; exact Bx.putAll FZT.out [.int .i64 5, .int .i64 ei, .int .i64 dr, .string qm, .string qh, .string qp, .slice qa qn qc, .int .i64 rs, .slice pa pn pc, .slice pb bn bc, .string ⟨#[]⟩, .bool false] rfl
  have KF : Below w.heap.size w VF := by rw [hVF]; exact below_putAll (by omega) [.int .i64 5, .int .i64 ei, .int .i64 dr, .string qm, .string qh, .string qp, .slice qa qn qc, .int .i64 rs, .slice pa pn pc, .slice pb bn bc, .string ⟨#[]⟩, .bool false] 0 KT.out
  clear hVF KT FT FZT
  go_wp2_with fail
  refine bodyPost_ret (v := .agg #[.int .i64 5, .int .i64 ei, .int .i64 dr, .string qm, .string qh, .string qp, .slice qa qn qc, .int .i64 rs, .slice pa pn pc, .slice pb bn bc, .string ⟨#[]⟩, .bool false]) ?_ rfl ⟨rfl, KF⟩
  exact results_bx rfl Tryz.underlying38 evI_size rfl R.val.1
set_option maxRecDepth 100000 in
set_option maxHeartbeats 8000000 in
theorem without6_any (w : World) (ei dr : Int) (qm qh qp : ByteArray) (qa : Option Addr) (qn qc : Nat) (rs : Int) (pa : Option Addr) (pn pc : Nat) (pb : Option Addr) (bn bc : Nat) (tx : ByteArray) (hd : Bool) :
    Calls Tryz.prog 20 #[.agg #[.int .i64 6, .int .i64 ei, .int .i64 dr, .string qm, .string qh, .string qp, .slice qa qn qc, .int .i64 rs, .slice pa pn pc, .slice pb bn bc, .string tx, .bool hd]] w fun e w' => e = .returned (.agg #[.int .i64 6, .int .i64 ei, .int .i64 dr, .string qm, .string qh, .string qp, .slice qa qn qc, .int .i64 rs, .slice pa pn pc, .slice pb bn bc, .string ⟨#[]⟩, .bool false]) ∧ Below w.heap.size w w' := by
  obtain ⟨W, hW⟩ : ∃ W, W = (w.alloc (.cells #[.int .i64 6, .int .i64 ei, .int .i64 dr, .string qm, .string qh, .string qp, .slice qa qn qc, .int .i64 rs, .slice pa pn pc, .slice pb bn bc, .string tx, .bool hd] 38)).alloc (.cells #[.int .i64 0, .int .i64 0, .int .i64 0, .string ⟨#[]⟩, .string ⟨#[]⟩, .string ⟨#[]⟩, .slice none 0 0, .int .i64 0, .slice none 0 0, .slice none 0 0, .string ⟨#[]⟩, .bool false] 38) := ⟨_, rfl⟩
  have HW := hidL hW
  have KW := hidL (show Below w.heap.size w W by rw [hW]; exact ((Below.refl _ _).alloc (Nat.le_refl _) _).alloc (by simp) _)
  have FB := hidL (show At w.heap.size (w.heap.size + 1) (Bx w.heap.size [.int .i64 6, .int .i64 ei, .int .i64 dr, .string qm, .string qh, .string qp, .slice qa qn qc, .int .i64 rs, .slice pa pn pc, .slice pb bn bc, .string tx, .bool hd]) W by rw [hW]; exact (Bx.new _ [.int .i64 6, .int .i64 ei, .int .i64 dr, .string qm, .string qh, .string qp, .slice qa qn qc, .int .i64 rs, .slice pa pn pc, .slice pb bn bc, .string tx, .bool hd] _).al _)
  have FZ := hidL (show At (w.heap.size + 1) (w.heap.size + 1 + 1) (Bx (w.heap.size + 1) [.int .i64 0, .int .i64 0, .int .i64 0, .string ⟨#[]⟩, .string ⟨#[]⟩, .string ⟨#[]⟩, .slice none 0 0, .int .i64 0, .slice none 0 0, .slice none 0 0, .string ⟨#[]⟩, .bool false]) W by rw [hW]; exact Bx.newAt (by simp) [.int .i64 0, .int .i64 0, .int .i64 0, .string ⟨#[]⟩, .string ⟨#[]⟩, .string ⟨#[]⟩, .slice none 0 0, .int .i64 0, .slice none 0 0, .slice none 0 0, .string ⟨#[]⟩, .bool false] _)
  clear hW
  go_enter Tryz.func20, Tryz.ntmps20
  go_upto_region 1 with fail
  rw [← HW.out]
  clear HW
  have p0 := FB.out.val.1 0 _ rfl
  have f0 := FB.out.val.2 0
  have p1 := FB.out.val.1 1 _ rfl
  have f1 := FB.out.val.2 1
  have p2 := FB.out.val.1 2 _ rfl
  have f2 := FB.out.val.2 2
  have p3 := FB.out.val.1 3 _ rfl
  have f3 := FB.out.val.2 3
  have p4 := FB.out.val.1 4 _ rfl
  have f4 := FB.out.val.2 4
  have p5 := FB.out.val.1 5 _ rfl
  have f5 := FB.out.val.2 5
  have p6 := FB.out.val.1 6 _ rfl
  have f6 := FB.out.val.2 6
  have p7 := FB.out.val.1 7 _ rfl
  have f7 := FB.out.val.2 7
  have p8 := FB.out.val.1 8 _ rfl
  have f8 := FB.out.val.2 8
  have p9 := FB.out.val.1 9 _ rfl
  have f9 := FB.out.val.2 9
  have p10 := FB.out.val.1 10 _ rfl
  have f10 := FB.out.val.2 10
  have p11 := FB.out.val.1 11 _ rfl
  have f11 := FB.out.val.2 11
  obtain ⟨T, hT⟩ : ∃ T, T = ((W.setCell ⟨w.heap.size, 10, none⟩ (.string ⟨#[]⟩)).setCell ⟨w.heap.size, 11, none⟩ (.bool false)) := ⟨_, rfl⟩
  have FT := hidL (show At w.heap.size (w.heap.size + 1) (Bx w.heap.size [.int .i64 6, .int .i64 ei, .int .i64 dr, .string qm, .string qh, .string qp, .slice qa qn qc, .int .i64 rs, .slice pa pn pc, .slice pb bn bc, .string ⟨#[]⟩, .bool false]) T by rw [hT]; exact (Bx.put (Bx.put FB.out 10 (.string ⟨#[]⟩) (by simp)) 11 (.bool false) (by simp)))
  have FZT := hidL (show At (w.heap.size + 1) (w.heap.size + 1 + 1) (Bx (w.heap.size + 1) [.int .i64 0, .int .i64 0, .int .i64 0, .string ⟨#[]⟩, .string ⟨#[]⟩, .string ⟨#[]⟩, .slice none 0 0, .int .i64 0, .slice none 0 0, .slice none 0 0, .string ⟨#[]⟩, .bool false]) T by rw [hT]; exact ((FZ.out.set _ (by omega)).set _ (by omega)))
  have KT := hidL (show Below w.heap.size w T by rw [hT]; exact ((KW.out.setCell (Nat.le_refl _) _).setCell (Nat.le_refl _) _))
  have HT := hidL hT
  clear hT
  go_upto_region 14 with fail
  rw [← HT.out]
  clear HT KW FB FZ p0 f0 p1 f1 p2 f2 p3 f3 p4 f4 p5 f5 p6 f6 p7 f7 p8 f8 p9 f9 p10 f10 p11 f11
  refine wp_copyOut (b1 := w.heap.size) (b2 := w.heap.size + 1) (vs := [.int .i64 6, .int .i64 ei, .int .i64 dr, .string qm, .string qh, .string qp, .slice qa qn qc, .int .i64 rs, .slice pa pn pc, .slice pb bn bc, .string ⟨#[]⟩, .bool false]) (zs := [.int .i64 0, .int .i64 0, .int .i64 0, .string ⟨#[]⟩, .string ⟨#[]⟩, .string ⟨#[]⟩, .slice none 0 0, .int .i64 0, .slice none 0 0, .slice none 0 0, .string ⟨#[]⟩, .bool false]) Tryz.underlying38 evI_size rfl (fun _ => rfl) (fun _ => rfl) FT.out.val.1 FZT.out.val.1 FZT.out.val.2 rfl rfl ?_
  obtain ⟨VF, hVF⟩ : ∃ V, V = putAll T (w.heap.size + 1) 0 [.int .i64 6, .int .i64 ei, .int .i64 dr, .string qm, .string qh, .string qp, .slice qa qn qc, .int .i64 rs, .slice pa pn pc, .slice pb bn bc, .string ⟨#[]⟩, .bool false] := ⟨_, rfl⟩
  rw [← hVF]
  have R : At (w.heap.size + 1) (w.heap.size + 1 + 1) (Bx (w.heap.size + 1) [.int .i64 6, .int .i64 ei, .int .i64 dr, .string qm, .string qh, .string qp, .slice qa qn qc, .int .i64 rs, .slice pa pn pc, .slice pb bn bc, .string ⟨#[]⟩, .bool false]) VF := by rw [hVF]; exact Bx.putAll FZT.out [.int .i64 6, .int .i64 ei, .int .i64 dr, .string qm, .string qh, .string qp, .slice qa qn qc, .int .i64 rs, .slice pa pn pc, .slice pb bn bc, .string ⟨#[]⟩, .bool false] rfl
  have KF : Below w.heap.size w VF := by rw [hVF]; exact below_putAll (by omega) [.int .i64 6, .int .i64 ei, .int .i64 dr, .string qm, .string qh, .string qp, .slice qa qn qc, .int .i64 rs, .slice pa pn pc, .slice pb bn bc, .string ⟨#[]⟩, .bool false] 0 KT.out
  clear hVF KT FT FZT
  go_wp2_with fail
  refine bodyPost_ret (v := .agg #[.int .i64 6, .int .i64 ei, .int .i64 dr, .string qm, .string qh, .string qp, .slice qa qn qc, .int .i64 rs, .slice pa pn pc, .slice pb bn bc, .string ⟨#[]⟩, .bool false]) ?_ rfl ⟨rfl, KF⟩
  exact results_bx rfl Tryz.underlying38 evI_size rfl R.val.1
set_option maxRecDepth 100000 in
set_option maxHeartbeats 8000000 in
theorem without7_any (w : World) (ei dr : Int) (qm qh qp : ByteArray) (qa : Option Addr) (qn qc : Nat) (rs : Int) (pa : Option Addr) (pn pc : Nat) (pb : Option Addr) (bn bc : Nat) (tx : ByteArray) (hd : Bool) :
    Calls Tryz.prog 20 #[.agg #[.int .i64 7, .int .i64 ei, .int .i64 dr, .string qm, .string qh, .string qp, .slice qa qn qc, .int .i64 rs, .slice pa pn pc, .slice pb bn bc, .string tx, .bool hd]] w fun e w' => e = .returned (.agg #[.int .i64 7, .int .i64 ei, .int .i64 dr, .string qm, .string qh, .string qp, .slice qa qn qc, .int .i64 rs, .slice pa pn pc, .slice pb bn bc, .string tx, .bool false]) ∧ Below w.heap.size w w' := by
  obtain ⟨W, hW⟩ : ∃ W, W = (w.alloc (.cells #[.int .i64 7, .int .i64 ei, .int .i64 dr, .string qm, .string qh, .string qp, .slice qa qn qc, .int .i64 rs, .slice pa pn pc, .slice pb bn bc, .string tx, .bool hd] 38)).alloc (.cells #[.int .i64 0, .int .i64 0, .int .i64 0, .string ⟨#[]⟩, .string ⟨#[]⟩, .string ⟨#[]⟩, .slice none 0 0, .int .i64 0, .slice none 0 0, .slice none 0 0, .string ⟨#[]⟩, .bool false] 38) := ⟨_, rfl⟩
  have HW := hidL hW
  have KW := hidL (show Below w.heap.size w W by rw [hW]; exact ((Below.refl _ _).alloc (Nat.le_refl _) _).alloc (by simp) _)
  have FB := hidL (show At w.heap.size (w.heap.size + 1) (Bx w.heap.size [.int .i64 7, .int .i64 ei, .int .i64 dr, .string qm, .string qh, .string qp, .slice qa qn qc, .int .i64 rs, .slice pa pn pc, .slice pb bn bc, .string tx, .bool hd]) W by rw [hW]; exact (Bx.new _ [.int .i64 7, .int .i64 ei, .int .i64 dr, .string qm, .string qh, .string qp, .slice qa qn qc, .int .i64 rs, .slice pa pn pc, .slice pb bn bc, .string tx, .bool hd] _).al _)
  have FZ := hidL (show At (w.heap.size + 1) (w.heap.size + 1 + 1) (Bx (w.heap.size + 1) [.int .i64 0, .int .i64 0, .int .i64 0, .string ⟨#[]⟩, .string ⟨#[]⟩, .string ⟨#[]⟩, .slice none 0 0, .int .i64 0, .slice none 0 0, .slice none 0 0, .string ⟨#[]⟩, .bool false]) W by rw [hW]; exact Bx.newAt (by simp) [.int .i64 0, .int .i64 0, .int .i64 0, .string ⟨#[]⟩, .string ⟨#[]⟩, .string ⟨#[]⟩, .slice none 0 0, .int .i64 0, .slice none 0 0, .slice none 0 0, .string ⟨#[]⟩, .bool false] _)
  clear hW
  go_enter Tryz.func20, Tryz.ntmps20
  go_upto_region 1 with fail
  rw [← HW.out]
  clear HW
  have p0 := FB.out.val.1 0 _ rfl
  have f0 := FB.out.val.2 0
  have p1 := FB.out.val.1 1 _ rfl
  have f1 := FB.out.val.2 1
  have p2 := FB.out.val.1 2 _ rfl
  have f2 := FB.out.val.2 2
  have p3 := FB.out.val.1 3 _ rfl
  have f3 := FB.out.val.2 3
  have p4 := FB.out.val.1 4 _ rfl
  have f4 := FB.out.val.2 4
  have p5 := FB.out.val.1 5 _ rfl
  have f5 := FB.out.val.2 5
  have p6 := FB.out.val.1 6 _ rfl
  have f6 := FB.out.val.2 6
  have p7 := FB.out.val.1 7 _ rfl
  have f7 := FB.out.val.2 7
  have p8 := FB.out.val.1 8 _ rfl
  have f8 := FB.out.val.2 8
  have p9 := FB.out.val.1 9 _ rfl
  have f9 := FB.out.val.2 9
  have p10 := FB.out.val.1 10 _ rfl
  have f10 := FB.out.val.2 10
  have p11 := FB.out.val.1 11 _ rfl
  have f11 := FB.out.val.2 11
  obtain ⟨T, hT⟩ : ∃ T, T = (W.setCell ⟨w.heap.size, 11, none⟩ (.bool false)) := ⟨_, rfl⟩
  have FT := hidL (show At w.heap.size (w.heap.size + 1) (Bx w.heap.size [.int .i64 7, .int .i64 ei, .int .i64 dr, .string qm, .string qh, .string qp, .slice qa qn qc, .int .i64 rs, .slice pa pn pc, .slice pb bn bc, .string tx, .bool false]) T by rw [hT]; exact (Bx.put FB.out 11 (.bool false) (by simp)))
  have FZT := hidL (show At (w.heap.size + 1) (w.heap.size + 1 + 1) (Bx (w.heap.size + 1) [.int .i64 0, .int .i64 0, .int .i64 0, .string ⟨#[]⟩, .string ⟨#[]⟩, .string ⟨#[]⟩, .slice none 0 0, .int .i64 0, .slice none 0 0, .slice none 0 0, .string ⟨#[]⟩, .bool false]) T by rw [hT]; exact (FZ.out.set _ (by omega)))
  have KT := hidL (show Below w.heap.size w T by rw [hT]; exact (KW.out.setCell (Nat.le_refl _) _))
  have HT := hidL hT
  clear hT
  go_upto_region 14 with fail
  rw [← HT.out]
  clear HT KW FB FZ p0 f0 p1 f1 p2 f2 p3 f3 p4 f4 p5 f5 p6 f6 p7 f7 p8 f8 p9 f9 p10 f10 p11 f11
  refine wp_copyOut (b1 := w.heap.size) (b2 := w.heap.size + 1) (vs := [.int .i64 7, .int .i64 ei, .int .i64 dr, .string qm, .string qh, .string qp, .slice qa qn qc, .int .i64 rs, .slice pa pn pc, .slice pb bn bc, .string tx, .bool false]) (zs := [.int .i64 0, .int .i64 0, .int .i64 0, .string ⟨#[]⟩, .string ⟨#[]⟩, .string ⟨#[]⟩, .slice none 0 0, .int .i64 0, .slice none 0 0, .slice none 0 0, .string ⟨#[]⟩, .bool false]) Tryz.underlying38 evI_size rfl (fun _ => rfl) (fun _ => rfl) FT.out.val.1 FZT.out.val.1 FZT.out.val.2 rfl rfl ?_
  obtain ⟨VF, hVF⟩ : ∃ V, V = putAll T (w.heap.size + 1) 0 [.int .i64 7, .int .i64 ei, .int .i64 dr, .string qm, .string qh, .string qp, .slice qa qn qc, .int .i64 rs, .slice pa pn pc, .slice pb bn bc, .string tx, .bool false] := ⟨_, rfl⟩
  rw [← hVF]
  have R : At (w.heap.size + 1) (w.heap.size + 1 + 1) (Bx (w.heap.size + 1) [.int .i64 7, .int .i64 ei, .int .i64 dr, .string qm, .string qh, .string qp, .slice qa qn qc, .int .i64 rs, .slice pa pn pc, .slice pb bn bc, .string tx, .bool false]) VF := by rw [hVF]; exact Bx.putAll FZT.out [.int .i64 7, .int .i64 ei, .int .i64 dr, .string qm, .string qh, .string qp, .slice qa qn qc, .int .i64 rs, .slice pa pn pc, .slice pb bn bc, .string tx, .bool false] rfl
  have KF : Below w.heap.size w VF := by rw [hVF]; exact below_putAll (by omega) [.int .i64 7, .int .i64 ei, .int .i64 dr, .string qm, .string qh, .string qp, .slice qa qn qc, .int .i64 rs, .slice pa pn pc, .slice pb bn bc, .string tx, .bool false] 0 KT.out
  clear hVF KT FT FZT
  go_wp2_with fail
  refine bodyPost_ret (v := .agg #[.int .i64 7, .int .i64 ei, .int .i64 dr, .string qm, .string qh, .string qp, .slice qa qn qc, .int .i64 rs, .slice pa pn pc, .slice pb bn bc, .string tx, .bool false]) ?_ rfl ⟨rfl, KF⟩
  exact results_bx rfl Tryz.underlying38 evI_size rfl R.val.1
set_option maxRecDepth 100000 in
set_option maxHeartbeats 8000000 in
theorem named_any (w : World) (kd ei dr : Int) (qm qh qp : ByteArray) (qa : Option Addr) (qc : Nat) (ql : List Hdr) (rs : Int) (pa : Option Addr) (pc : Nat) (pb : Option Addr) (bc : Nat) (pl : List Hdr) (bl : List UInt8) (tx : ByteArray) (hd : Bool) (h1 : 1 ≤ kd) (h7 : kd ≤ 7) (hl : ql.length ≤ 1048576) (pll : pl.length ≤ 1048576) (_hbl : bl.length ≤ 1048576) (hi : HdsIn w qa ql) (hpi : HdsIn w pa pl) (hib : BIn w pb bl) :
    Calls Tryz.prog 20 #[.agg #[.int .i64 kd, .int .i64 ei, .int .i64 dr, .string qm, .string qh, .string qp, .slice qa ql.length qc, .int .i64 rs, .slice pa pl.length pc, .slice pb bl.length bc, .string tx, .bool hd]] w fun e w' => (∃ v, e = .returned v ∧ ∀ Y, Below w'.heap.size w' Y → Calls Tryz.prog 19 #[v] Y fun e w'' => e = .returned (.bool (evZ kd qm qh qp ql rs pl bl ei dr tx hd)) ∧ Below Y.heap.size Y w'') ∧ Below w.heap.size w w' := by
  have hk : kd = 1 ∨ kd = 2 ∨ kd = 3 ∨ kd = 4 ∨ kd = 5 ∨ kd = 6 ∨ kd = 7 := by omega
  rcases hk with rfl | rfl | rfl | rfl | rfl | rfl | rfl
  · refine (without1_any w ei dr qm qh qp qa ql.length qc rs pa pl.length pc pb bl.length bc tx hd).mono ?_
    rintro e w1 ⟨rfl, hb⟩
    refine ⟨⟨_, rfl, fun Y hY => ?_⟩, hb⟩
    have hY2 := hb.trans (hY.mono hb.size)
    refine (isZero_any Y 1 0 0 ⟨#[]⟩ ⟨#[]⟩ ⟨#[]⟩ none 0 [] rs pa pc pb bc pl bl tx hd (by simp) pll (.inl rfl) (hpi.keep hY2) (hib.keep hY2)).mono ?_
    rintro e w2 ⟨rfl, hb2⟩
    refine ⟨?_, hb2⟩
    unfold evZ zeroB
    simp [sameQ_nil]
  · refine (without2_any w ei dr qm qh qp qa ql.length qc rs pa pl.length pc pb bl.length bc tx hd).mono ?_
    rintro e w1 ⟨rfl, hb⟩
    refine ⟨⟨_, rfl, fun Y hY => ?_⟩, hb⟩
    have hY2 := hb.trans (hY.mono hb.size)
    refine (isZero_any Y 2 0 dr qm qh qp qa qc ql 0 none 0 none 0 [] [] tx hd hl (by simp) (hi.keep hY2) (.inl rfl) (.inl rfl)).mono ?_
    rintro e w2 ⟨rfl, hb2⟩
    refine ⟨?_, hb2⟩
    unfold evZ zeroB
    simp [sameP_nil]
  · refine (without3_any w ei dr qm qh qp qa ql.length qc rs pa pl.length pc pb bl.length bc tx hd).mono ?_
    rintro e w1 ⟨rfl, hb⟩
    refine ⟨⟨_, rfl, fun Y hY => ?_⟩, hb⟩
    have hY2 := hb.trans (hY.mono hb.size)
    refine (isZero_any Y 3 0 dr qm qh qp qa qc ql rs pa pc pb bc pl bl tx hd hl pll (hi.keep hY2) (hpi.keep hY2) (hib.keep hY2)).mono ?_
    rintro e w2 ⟨rfl, hb2⟩
    refine ⟨?_, hb2⟩
    unfold evZ zeroB
    simp
  · refine (without4_any w ei dr qm qh qp qa ql.length qc rs pa pl.length pc pb bl.length bc tx hd).mono ?_
    rintro e w1 ⟨rfl, hb⟩
    refine ⟨⟨_, rfl, fun Y hY => ?_⟩, hb⟩
    have hY2 := hb.trans (hY.mono hb.size)
    refine (isZero_any Y 4 0 dr qm qh qp qa qc ql rs pa pc pb bc pl bl tx hd hl pll (hi.keep hY2) (hpi.keep hY2) (hib.keep hY2)).mono ?_
    rintro e w2 ⟨rfl, hb2⟩
    refine ⟨?_, hb2⟩
    unfold evZ zeroB
    simp
  · refine (without5_any w ei dr qm qh qp qa ql.length qc rs pa pl.length pc pb bl.length bc tx hd).mono ?_
    rintro e w1 ⟨rfl, hb⟩
    refine ⟨⟨_, rfl, fun Y hY => ?_⟩, hb⟩
    have hY2 := hb.trans (hY.mono hb.size)
    refine (isZero_any Y 5 ei dr qm qh qp qa qc ql rs pa pc pb bc pl bl ⟨#[]⟩ false hl pll (hi.keep hY2) (hpi.keep hY2) (hib.keep hY2)).mono ?_
    rintro e w2 ⟨rfl, hb2⟩
    refine ⟨?_, hb2⟩
    unfold evZ zeroB
    simp [emp_nil]
  · refine (without6_any w ei dr qm qh qp qa ql.length qc rs pa pl.length pc pb bl.length bc tx hd).mono ?_
    rintro e w1 ⟨rfl, hb⟩
    refine ⟨⟨_, rfl, fun Y hY => ?_⟩, hb⟩
    have hY2 := hb.trans (hY.mono hb.size)
    refine (isZero_any Y 6 ei dr qm qh qp qa qc ql rs pa pc pb bc pl bl ⟨#[]⟩ false hl pll (hi.keep hY2) (hpi.keep hY2) (hib.keep hY2)).mono ?_
    rintro e w2 ⟨rfl, hb2⟩
    refine ⟨?_, hb2⟩
    unfold evZ zeroB
    simp [emp_nil]
  · refine (without7_any w ei dr qm qh qp qa ql.length qc rs pa pl.length pc pb bl.length bc tx hd).mono ?_
    rintro e w1 ⟨rfl, hb⟩
    refine ⟨⟨_, rfl, fun Y hY => ?_⟩, hb⟩
    have hY2 := hb.trans (hY.mono hb.size)
    refine (isZero_any Y 7 ei dr qm qh qp qa qc ql rs pa pc pb bc pl bl tx false hl pll (hi.keep hY2) (hpi.keep hY2) (hib.keep hY2)).mono ?_
    rintro e w2 ⟨rfl, hb2⟩
    refine ⟨?_, hb2⟩
    unfold evZ zeroB
    simp
set_option maxRecDepth 100000 in
set_option maxHeartbeats 4000000 in
theorem msg1_any (w : World) (ei dr : Int) (qm qh qp : ByteArray) (qa : Option Addr) (qn qc : Nat) (rs : Int) (pa : Option Addr) (pn pc : Nat) (pb : Option Addr) (bn bc : Nat) (tx : ByteArray) (hd : Bool) (c : Int) (H : ∀ Y, Below w.heap.size w Y → Calls Tryz.prog 35 #[.agg #[.string qm, .string qh, .string qp, .slice qa qn qc]] Y fun e w' => e = .returned (.int .i64 c) ∧ Below Y.heap.size Y w') :
    Calls Tryz.prog 22 #[.agg #[.int .i64 1, .int .i64 ei, .int .i64 dr, .string qm, .string qh, .string qp, .slice qa qn qc, .int .i64 rs, .slice pa pn pc, .slice pb bn bc, .string tx, .bool hd]] w fun e w' => e = .returned (.int .i64 c) ∧ Below w.heap.size w w' := by
  have HB : Hid (Below w.heap.size w (w.alloc (.cells #[.int .i64 1, .int .i64 ei, .int .i64 dr, .string qm, .string qh, .string qp, .slice qa qn qc, .int .i64 rs, .slice pa pn pc, .slice pb bn bc, .string tx, .bool hd] 38))) := (Below.refl _ _).alloc (Nat.le_refl _) _
  have HH := hidL H
  clear H
  go_enter Tryz.func22, Tryz.ntmps22
  go_wp2_with fail
  refine (HH.out _ HB.out).mono ?_
  rintro e w1 ⟨rfl, hb⟩
  have K1 := hidL (HB.out.trans (hb.mono HB.out.size))
  clear hb HH HB
  go_wp2_with fail
  go_ret
  exact ⟨rfl, K1.out⟩
set_option maxRecDepth 100000 in
set_option maxHeartbeats 4000000 in
theorem msg2_any (w : World) (ei dr : Int) (qm qh qp : ByteArray) (qa : Option Addr) (qn qc : Nat) (rs : Int) (pa : Option Addr) (pn pc : Nat) (pb : Option Addr) (bn bc : Nat) (tx : ByteArray) (hd : Bool) (c : Int) (H : ∀ Y, Below w.heap.size w Y → Calls Tryz.prog 36 #[.agg #[.int .i64 rs, .slice pa pn pc, .slice pb bn bc]] Y fun e w' => e = .returned (.int .i64 c) ∧ Below Y.heap.size Y w') :
    Calls Tryz.prog 22 #[.agg #[.int .i64 2, .int .i64 ei, .int .i64 dr, .string qm, .string qh, .string qp, .slice qa qn qc, .int .i64 rs, .slice pa pn pc, .slice pb bn bc, .string tx, .bool hd]] w fun e w' => e = .returned (.int .i64 c) ∧ Below w.heap.size w w' := by
  have HB : Hid (Below w.heap.size w (w.alloc (.cells #[.int .i64 2, .int .i64 ei, .int .i64 dr, .string qm, .string qh, .string qp, .slice qa qn qc, .int .i64 rs, .slice pa pn pc, .slice pb bn bc, .string tx, .bool hd] 38))) := (Below.refl _ _).alloc (Nat.le_refl _) _
  have HH := hidL H
  clear H
  go_enter Tryz.func22, Tryz.ntmps22
  go_wp2_with fail
  refine (HH.out _ HB.out).mono ?_
  rintro e w1 ⟨rfl, hb⟩
  have K1 := hidL (HB.out.trans (hb.mono HB.out.size))
  clear hb HH HB
  go_wp2_with fail
  go_ret
  exact ⟨rfl, K1.out⟩
set_option maxRecDepth 100000 in
set_option maxHeartbeats 4000000 in
theorem msg0_any (w : World) (kd ei dr : Int) (qm qh qp : ByteArray) (qa : Option Addr) (qn qc : Nat) (rs : Int) (pa : Option Addr) (pn pc : Nat) (pb : Option Addr) (bn bc : Nat) (tx : ByteArray) (hd : Bool) (h1 : (kd == 1) = false) (h2 : (kd == 2) = false) :
    Calls Tryz.prog 22 #[.agg #[.int .i64 kd, .int .i64 ei, .int .i64 dr, .string qm, .string qh, .string qp, .slice qa qn qc, .int .i64 rs, .slice pa pn pc, .slice pb bn bc, .string tx, .bool hd]] w fun e w' => e = .returned (.int .i64 0) ∧ Below w.heap.size w w' := by
  have HB : Hid (Below w.heap.size w (w.alloc (.cells #[.int .i64 kd, .int .i64 ei, .int .i64 dr, .string qm, .string qh, .string qp, .slice qa qn qc, .int .i64 rs, .slice pa pn pc, .slice pb bn bc, .string tx, .bool hd] 38))) := (Below.refl _ _).alloc (Nat.le_refl _) _
  go_enter Tryz.func22, Tryz.ntmps22
  go_wp2_with fail
  go_ret
  exact ⟨rfl, HB.out⟩
end Go.Proofs.YthiiaefdobpjhaaGreatDoor
/-
  EventFault, by the program.
-/
namespace Go.Proofs.YthiiaefdobpjhaaGreatDoor
open Go.ChangeShapes Go.WideShapes Go.ChangeAt Go.RowKit Go.Sort
set_option linter.unusedSimpArgs false
set_option maxRecDepth 100000 in
set_option maxHeartbeats 32000000 in
theorem implEvt_any (EE : Errs) (w : World) (kd ei dr : Int) (qm qh qp : ByteArray) (qa : Option Addr) (qc : Nat) (ql : List Hdr) (rs : Int) (pa : Option Addr) (pc : Nat) (pb : Option Addr) (bc : Nat) (pl : List Hdr) (bl : List UInt8) (tx : ByteArray) (hd : Bool) (hl : ql.length ≤ 1048576) (pll : pl.length ≤ 1048576) (hbl : bl.length ≤ 1048576) (hset : SetIs w) (hE : ErrsIs w EE) (hcq : ql.length ≤ qc) (hm3 : qp.size ≤ 1048576) (hi : HdsIn w qa ql) (hpi : HdsIn w pa pl) (hib : BIn w pb bl) :
    Calls Tryz.prog 7 #[.agg #[.int .i64 kd, .int .i64 ei, .int .i64 dr, .string qm, .string qh, .string qp, .slice qa ql.length qc, .int .i64 rs, .slice pa pl.length pc, .slice pb bl.length bc, .string tx, .bool hd]] w fun e w' => e = .returned (.int .i64 (evC kd ei dr qm qh qp ql rs pl bl tx hd)) ∧ Below w.heap.size w w' := by
  obtain ⟨W, hW⟩ : ∃ W, W = w.alloc (.cells #[.int .i64 kd, .int .i64 ei, .int .i64 dr, .string qm, .string qh, .string qp, .slice qa ql.length qc, .int .i64 rs, .slice pa pl.length pc, .slice pb bl.length bc, .string tx, .bool hd] 38) := ⟨_, rfl⟩
  have HW := hidL hW
  have bW : Below w.heap.size w W := by rw [hW]; exact (Below.refl _ _).alloc (Nat.le_refl _) _
  have KW := hidL bW
  have FB := hidL (show At w.heap.size (w.heap.size + 1) (Bx w.heap.size [.int .i64 kd, .int .i64 ei, .int .i64 dr, .string qm, .string qh, .string qp, .slice qa ql.length qc, .int .i64 rs, .slice pa pl.length pc, .slice pb bl.length bc, .string tx, .bool hd]) W by rw [hW]; exact Bx.new _ [.int .i64 kd, .int .i64 ei, .int .i64 dr, .string qm, .string qh, .string qp, .slice qa ql.length qc, .int .i64 rs, .slice pa pl.length pc, .slice pb bl.length bc, .string tx, .bool hd] _)
  obtain ⟨qn, hqn⟩ : ∃ n, ql.length = n := ⟨_, rfl⟩
  obtain ⟨pn, hpn⟩ : ∃ n, pl.length = n := ⟨_, rfl⟩
  obtain ⟨bn, hbn⟩ : ∃ n, bl.length = n := ⟨_, rfl⟩
  have CQ : Hid (∀ X, Below w.heap.size w X → Calls Tryz.prog 35 #[.agg #[.string qm, .string qh, .string qp, .slice qa qn qc]] X fun e w' => e = .returned (.int .i64 (reqC qm qh qp ql)) ∧ Below X.heap.size X w') := fun X hX => hqn ▸ implReq_any EE X qm qh qp qa qc ql hl hcq hm3 (hset.below hX) (hE.below hX) (hi.keep hX)
  have CP : Hid (∀ X, Below w.heap.size w X → Calls Tryz.prog 36 #[.agg #[.int .i64 rs, .slice pa pn pc, .slice pb bn bc]] X fun e w' => e = .returned (.int .i64 (respC rs pl bn)) ∧ Below X.heap.size X w') := fun X hX => hpn ▸ hbn ▸ implResp_any EE X rs pa pc pl pb bl.length bc pll hbl (hset.below hX) (hE.below hX) (hpi.keep hX)
  have CT : Hid (∀ x w, Calls Tryz.prog 21 #[.int .i64 x] w fun r w' => r = .returned (.bool (timeB x)) ∧ w' = w) := isTime_all
  have CI : Hid (∀ x lo hi w, Calls Tryz.prog 18 #[.int .i64 x, .int .i64 lo, .int .i64 hi] w fun r w' => r = .returned (.bool (inW lo hi x)) ∧ w' = w) := isWithin_all
  have CZ : Hid (∀ k b, 1 ≤ k → k ≤ 7 → kd = k → evZ k qm qh qp ql rs pl bl ei dr tx hd = b → ∀ X, Below w.heap.size w X → Calls Tryz.prog 20 #[.agg #[.int .i64 kd, .int .i64 ei, .int .i64 dr, .string qm, .string qh, .string qp, .slice qa qn qc, .int .i64 rs, .slice pa pn pc, .slice pb bn bc, .string tx, .bool hd]] X fun e w' => (∃ v, e = .returned v ∧ ∀ Y, Below w'.heap.size w' Y → Calls Tryz.prog 19 #[v] Y fun e w'' => e = .returned (.bool b) ∧ Below Y.heap.size Y w'') ∧ Below X.heap.size X w') := fun k b h1 h2 h3 h4 X hX => by
    subst h3; subst h4
    have := hqn; have := hpn; have := hbn
    subst hqn; subst hpn; subst hbn
    exact named_any X kd ei dr qm qh qp qa qc ql rs pa pc pb bc pl bl tx hd h1 h2 hl pll hbl (hi.keep hX) (hpi.keep hX) (hib.keep hX)
  obtain ⟨Z, hZ⟩ : ∃ Z, evC kd ei dr qm qh qp ql rs pl bl tx hd = Z := ⟨_, rfl⟩
  rw [hZ]
  have HZ := hidL hZ
  rw [hqn, hpn, hbn] at HW FB ⊢
  unfold evC at HZ
  rw [hbn] at HZ
  clear hZ hW bW hqn hpn hbn hl pll hbl hi hpi hib hset hE hcq hm3
  by_cases k1 : kd = 1
  · subst k1
    replace CZ := hidL (CZ.out 1 _ (by decide) (by decide) rfl rfl)
    generalize hzb : evZ 1 qm qh qp ql rs pl bl ei dr tx hd = zb at *
    have HTX : Hid (zb = true → tx.size = 0) := fun h => by
      rw [← hzb] at h
      unfold evZ at h
      simp only [if_true] at h
      exact zeroB_tx h
    clear hzb
    go_enter Tryz.func7, Tryz.ntmps7
    go_upto_region 1 with fail
    rw [← HW.out]
    clear HW
    have p0 := FB.out.val.1 0 _ rfl
    have p1 := FB.out.val.1 1 _ rfl
    have p2 := FB.out.val.1 2 _ rfl
    have p3 := FB.out.val.1 3 _ rfl
    have p4 := FB.out.val.1 4 _ rfl
    have p5 := FB.out.val.1 5 _ rfl
    have p6 := FB.out.val.1 6 _ rfl
    have p7 := FB.out.val.1 7 _ rfl
    have p8 := FB.out.val.1 8 _ rfl
    have p9 := FB.out.val.1 9 _ rfl
    have p10 := FB.out.val.1 10 _ rfl
    have p11 := FB.out.val.1 11 _ rfl
    go_wp2_with fail
    refine (CI.out _ 1 7 _).mono ?_
    rintro e v0 ⟨rfl, rfl⟩
    have i7 : inW 1 7 1 = true := by decide
    go_wp2_with fail
    refine (CZ.out v0 KW.out).mono ?_
    rintro e v1 ⟨⟨v, rfl, hc⟩, hb⟩
    have K1 := hidL (KW.out.trans (hb.mono KW.out.size))
    replace FB := hidL (FB.out.keep hb)
    have HC := hidL hc
    clear hb hc CZ p0 p1 p2 p3 p4 p5 p6 p7 p8 p9 p10 p11
    go_wp2_with fail
    refine (HC.out v1 (Below.refl _ _)).mono ?_
    rintro e v2 ⟨rfl, hb⟩
    have K2 := hidL (K1.out.trans (hb.mono K1.out.size))
    replace FB := hidL (FB.out.keep hb)
    clear hb HC K1 i7
    have p0 := FB.out.val.1 0 _ rfl
    have p1 := FB.out.val.1 1 _ rfl
    have p2 := FB.out.val.1 2 _ rfl
    have p3 := FB.out.val.1 3 _ rfl
    have p4 := FB.out.val.1 4 _ rfl
    have p5 := FB.out.val.1 5 _ rfl
    have p6 := FB.out.val.1 6 _ rfl
    have p7 := FB.out.val.1 7 _ rfl
    have p8 := FB.out.val.1 8 _ rfl
    have p9 := FB.out.val.1 9 _ rfl
    have p10 := FB.out.val.1 10 _ rfl
    have p11 := FB.out.val.1 11 _ rfl
    cases hz : zb
    · have hZ := HZ.out
      simp [hz] at hZ
      subst hZ
      clear HZ
      go_wp2_with fail
      go_ret
      exact ⟨rfl, K2.out⟩
    have htx := HTX.out hz
    go_wp2_with fail
    refine (CT.out ei _).mono ?_
    rintro e v3 ⟨rfl, rfl⟩
    cases ht : timeB ei
    · have hZ := HZ.out
      simp [hz, ht] at hZ
      subst hZ
      clear HZ
      go_wp2_with fail
      go_ret
      exact ⟨rfl, K2.out⟩
    go_wp2_with fail
    refine (CI.out dr 0 999 _).mono ?_
    rintro e v4 ⟨rfl, rfl⟩
    cases hn : inW 0 999 dr
    · have hZ := HZ.out
      simp [hz, ht, hn] at hZ
      subst hZ
      clear HZ
      go_wp2_with fail
      go_ret
      exact ⟨rfl, K2.out⟩
    have CM : Hid (∀ X, Below w.heap.size w X → Calls Tryz.prog 22 #[.agg #[.int .i64 1, .int .i64 ei, .int .i64 dr, .string qm, .string qh, .string qp, .slice qa qn qc, .int .i64 rs, .slice pa pn pc, .slice pb bn bc, .string tx, .bool hd]] X fun e w' => e = .returned (.int .i64 (reqC qm qh qp ql)) ∧ Below X.heap.size X w') := fun X hX => msg1_any X ei dr qm qh qp qa qn qc rs pa pn pc pb bn bc tx hd (reqC qm qh qp ql) (fun Y hY => CQ.out Y (hX.trans (hY.mono hX.size)))
    go_wp2_with fail
    refine (CM.out _ K2.out).mono ?_
    rintro e v5 ⟨rfl, hb⟩
    have K5 := hidL (K2.out.trans (hb.mono K2.out.size))
    have p10b := (FB.out.keep hb).val.1 10 _ rfl
    clear hb CM p0 p1 p2 p3 p4 p5 p6 p7 p8 p9 p10 p11
    have hZ := HZ.out
    simp [hz, ht, hn] at hZ
    clear HZ
    rw [hZ]
    clear hZ
    by_cases hc : Z = 0
    · subst hc
      have g : ¬ (500 : Int) < (tx.size : Int) := by omega
      go_wp2_with fail
      go_ret
      exact ⟨rfl, K5.out⟩
    · have g : (Z == 0) = false := by simpa using hc
      go_wp2_with fail
      go_ret
      exact ⟨rfl, K5.out⟩
  by_cases k2 : kd = 2
  · subst k2
    replace CZ := hidL (CZ.out 2 _ (by decide) (by decide) rfl rfl)
    generalize hzb : evZ 2 qm qh qp ql rs pl bl ei dr tx hd = zb at *
    have HTX : Hid (zb = true → tx.size = 0) := fun h => by
      rw [← hzb] at h
      unfold evZ at h
      simp only [Int.reduceEq, if_false, if_true] at h
      exact zeroB_tx h
    clear hzb
    go_enter Tryz.func7, Tryz.ntmps7
    go_upto_region 1 with fail
    rw [← HW.out]
    clear HW
    have p0 := FB.out.val.1 0 _ rfl
    have p1 := FB.out.val.1 1 _ rfl
    have p2 := FB.out.val.1 2 _ rfl
    have p3 := FB.out.val.1 3 _ rfl
    have p4 := FB.out.val.1 4 _ rfl
    have p5 := FB.out.val.1 5 _ rfl
    have p6 := FB.out.val.1 6 _ rfl
    have p7 := FB.out.val.1 7 _ rfl
    have p8 := FB.out.val.1 8 _ rfl
    have p9 := FB.out.val.1 9 _ rfl
    have p10 := FB.out.val.1 10 _ rfl
    have p11 := FB.out.val.1 11 _ rfl
    go_wp2_with fail
    refine (CI.out _ 1 7 _).mono ?_
    rintro e v0 ⟨rfl, rfl⟩
    have i7 : inW 1 7 2 = true := by decide
    go_wp2_with fail
    refine (CZ.out v0 KW.out).mono ?_
    rintro e v1 ⟨⟨v, rfl, hc⟩, hb⟩
    have K1 := hidL (KW.out.trans (hb.mono KW.out.size))
    replace FB := hidL (FB.out.keep hb)
    have HC := hidL hc
    clear hb hc CZ p0 p1 p2 p3 p4 p5 p6 p7 p8 p9 p10 p11
    go_wp2_with fail
    refine (HC.out v1 (Below.refl _ _)).mono ?_
    rintro e v2 ⟨rfl, hb⟩
    have K2 := hidL (K1.out.trans (hb.mono K1.out.size))
    replace FB := hidL (FB.out.keep hb)
    clear hb HC K1 i7
    have p0 := FB.out.val.1 0 _ rfl
    have p1 := FB.out.val.1 1 _ rfl
    have p2 := FB.out.val.1 2 _ rfl
    have p3 := FB.out.val.1 3 _ rfl
    have p4 := FB.out.val.1 4 _ rfl
    have p5 := FB.out.val.1 5 _ rfl
    have p6 := FB.out.val.1 6 _ rfl
    have p7 := FB.out.val.1 7 _ rfl
    have p8 := FB.out.val.1 8 _ rfl
    have p9 := FB.out.val.1 9 _ rfl
    have p10 := FB.out.val.1 10 _ rfl
    have p11 := FB.out.val.1 11 _ rfl
    cases hz : zb
    · have hZ := HZ.out
      simp [hz] at hZ
      subst hZ
      clear HZ
      go_wp2_with fail
      go_ret
      exact ⟨rfl, K2.out⟩
    have htx := HTX.out hz
    go_wp2_with fail
    refine (CT.out ei _).mono ?_
    rintro e v3 ⟨rfl, rfl⟩
    cases ht : timeB ei
    · have hZ := HZ.out
      simp [hz, ht] at hZ
      subst hZ
      clear HZ
      go_wp2_with fail
      go_ret
      exact ⟨rfl, K2.out⟩
    go_wp2_with fail
    refine (CI.out dr 0 999 _).mono ?_
    rintro e v4 ⟨rfl, rfl⟩
    cases hn : inW 0 999 dr
    · have hZ := HZ.out
      simp [hz, ht, hn] at hZ
      subst hZ
      clear HZ
      go_wp2_with fail
      go_ret
      exact ⟨rfl, K2.out⟩
    have CM : Hid (∀ X, Below w.heap.size w X → Calls Tryz.prog 22 #[.agg #[.int .i64 2, .int .i64 ei, .int .i64 dr, .string qm, .string qh, .string qp, .slice qa qn qc, .int .i64 rs, .slice pa pn pc, .slice pb bn bc, .string tx, .bool hd]] X fun e w' => e = .returned (.int .i64 (respC rs pl bn)) ∧ Below X.heap.size X w') := fun X hX => msg2_any X ei dr qm qh qp qa qn qc rs pa pn pc pb bn bc tx hd (respC rs pl bn) (fun Y hY => CP.out Y (hX.trans (hY.mono hX.size)))
    go_wp2_with fail
    refine (CM.out _ K2.out).mono ?_
    rintro e v5 ⟨rfl, hb⟩
    have K5 := hidL (K2.out.trans (hb.mono K2.out.size))
    have p10b := (FB.out.keep hb).val.1 10 _ rfl
    clear hb CM p0 p1 p2 p3 p4 p5 p6 p7 p8 p9 p10 p11
    have hZ := HZ.out
    simp [hz, ht, hn] at hZ
    clear HZ
    rw [hZ]
    clear hZ
    by_cases hc : Z = 0
    · subst hc
      have g : ¬ (500 : Int) < (tx.size : Int) := by omega
      go_wp2_with fail
      go_ret
      exact ⟨rfl, K5.out⟩
    · have g : (Z == 0) = false := by simpa using hc
      go_wp2_with fail
      go_ret
      exact ⟨rfl, K5.out⟩
  by_cases k3 : kd = 3
  · subst k3
    replace CZ := hidL (CZ.out 3 _ (by decide) (by decide) rfl rfl)
    generalize hzb : evZ 3 qm qh qp ql rs pl bl ei dr tx hd = zb at *
    clear hzb
    go_enter Tryz.func7, Tryz.ntmps7
    go_upto_region 1 with fail
    rw [← HW.out]
    clear HW
    have p0 := FB.out.val.1 0 _ rfl
    have p1 := FB.out.val.1 1 _ rfl
    have p2 := FB.out.val.1 2 _ rfl
    have p3 := FB.out.val.1 3 _ rfl
    have p4 := FB.out.val.1 4 _ rfl
    have p5 := FB.out.val.1 5 _ rfl
    have p6 := FB.out.val.1 6 _ rfl
    have p7 := FB.out.val.1 7 _ rfl
    have p8 := FB.out.val.1 8 _ rfl
    have p9 := FB.out.val.1 9 _ rfl
    have p10 := FB.out.val.1 10 _ rfl
    have p11 := FB.out.val.1 11 _ rfl
    go_wp2_with fail
    refine (CI.out _ 1 7 _).mono ?_
    rintro e v0 ⟨rfl, rfl⟩
    have i7 : inW 1 7 3 = true := by decide
    go_wp2_with fail
    refine (CZ.out v0 KW.out).mono ?_
    rintro e v1 ⟨⟨v, rfl, hc⟩, hb⟩
    have K1 := hidL (KW.out.trans (hb.mono KW.out.size))
    replace FB := hidL (FB.out.keep hb)
    have HC := hidL hc
    clear hb hc CZ p0 p1 p2 p3 p4 p5 p6 p7 p8 p9 p10 p11
    go_wp2_with fail
    refine (HC.out v1 (Below.refl _ _)).mono ?_
    rintro e v2 ⟨rfl, hb⟩
    have K2 := hidL (K1.out.trans (hb.mono K1.out.size))
    replace FB := hidL (FB.out.keep hb)
    clear hb HC K1 i7
    have p0 := FB.out.val.1 0 _ rfl
    have p1 := FB.out.val.1 1 _ rfl
    have p2 := FB.out.val.1 2 _ rfl
    have p3 := FB.out.val.1 3 _ rfl
    have p4 := FB.out.val.1 4 _ rfl
    have p5 := FB.out.val.1 5 _ rfl
    have p6 := FB.out.val.1 6 _ rfl
    have p7 := FB.out.val.1 7 _ rfl
    have p8 := FB.out.val.1 8 _ rfl
    have p9 := FB.out.val.1 9 _ rfl
    have p10 := FB.out.val.1 10 _ rfl
    have p11 := FB.out.val.1 11 _ rfl
    cases hz : zb
    · have hZ := HZ.out
      simp [hz] at hZ
      subst hZ
      clear HZ
      go_wp2_with fail
      go_ret
      exact ⟨rfl, K2.out⟩
    go_wp2_with fail
    refine (CT.out ei _).mono ?_
    rintro e v3 ⟨rfl, rfl⟩
    cases ht : timeB ei
    · have hZ := HZ.out
      simp [hz, ht] at hZ
      subst hZ
      clear HZ
      go_wp2_with fail
      go_ret
      exact ⟨rfl, K2.out⟩
    go_wp2_with fail
    refine (CI.out dr 0 999 _).mono ?_
    rintro e v4 ⟨rfl, rfl⟩
    cases hn : inW 0 999 dr
    · have hZ := HZ.out
      simp [hz, ht, hn] at hZ
      subst hZ
      clear HZ
      go_wp2_with fail
      go_ret
      exact ⟨rfl, K2.out⟩
    have CM : Hid (∀ X, Calls Tryz.prog 22 #[.agg #[.int .i64 3, .int .i64 ei, .int .i64 dr, .string qm, .string qh, .string qp, .slice qa qn qc, .int .i64 rs, .slice pa pn pc, .slice pb bn bc, .string tx, .bool hd]] X fun e w' => e = .returned (.int .i64 0) ∧ Below X.heap.size X w') := fun X => msg0_any X 3 ei dr qm qh qp qa qn qc rs pa pn pc pb bn bc tx hd (by decide) (by decide)
    go_wp2_with fail
    refine (CM.out _).mono ?_
    rintro e v5 ⟨rfl, hb⟩
    have K5 := hidL (K2.out.trans (hb.mono K2.out.size))
    have p10b := (FB.out.keep hb).val.1 10 _ rfl
    clear hb CM p0 p1 p2 p3 p4 p5 p6 p7 p8 p9 p10 p11
    by_cases h5 : 500 < tx.size
    · have g : (500 : Int) < (tx.size : Int) := by omega
      have hZ := HZ.out
      simp [hz, ht, hn, h5] at hZ
      subst hZ
      clear HZ
      go_wp2_with fail
      go_ret
      exact ⟨rfl, K5.out⟩
    · have g : ¬ (500 : Int) < (tx.size : Int) := by omega
      have hZ := HZ.out
      simp [hz, ht, hn, h5] at hZ
      subst hZ
      clear HZ
      go_wp2_with fail
      go_ret
      exact ⟨rfl, K5.out⟩
  by_cases k4 : kd = 4
  · subst k4
    replace CZ := hidL (CZ.out 4 _ (by decide) (by decide) rfl rfl)
    generalize hzb : evZ 4 qm qh qp ql rs pl bl ei dr tx hd = zb at *
    clear hzb
    go_enter Tryz.func7, Tryz.ntmps7
    go_upto_region 1 with fail
    rw [← HW.out]
    clear HW
    have p0 := FB.out.val.1 0 _ rfl
    have p1 := FB.out.val.1 1 _ rfl
    have p2 := FB.out.val.1 2 _ rfl
    have p3 := FB.out.val.1 3 _ rfl
    have p4 := FB.out.val.1 4 _ rfl
    have p5 := FB.out.val.1 5 _ rfl
    have p6 := FB.out.val.1 6 _ rfl
    have p7 := FB.out.val.1 7 _ rfl
    have p8 := FB.out.val.1 8 _ rfl
    have p9 := FB.out.val.1 9 _ rfl
    have p10 := FB.out.val.1 10 _ rfl
    have p11 := FB.out.val.1 11 _ rfl
    go_wp2_with fail
    refine (CI.out _ 1 7 _).mono ?_
    rintro e v0 ⟨rfl, rfl⟩
    have i7 : inW 1 7 4 = true := by decide
    go_wp2_with fail
    refine (CZ.out v0 KW.out).mono ?_
    rintro e v1 ⟨⟨v, rfl, hc⟩, hb⟩
    have K1 := hidL (KW.out.trans (hb.mono KW.out.size))
    replace FB := hidL (FB.out.keep hb)
    have HC := hidL hc
    clear hb hc CZ p0 p1 p2 p3 p4 p5 p6 p7 p8 p9 p10 p11
    go_wp2_with fail
    refine (HC.out v1 (Below.refl _ _)).mono ?_
    rintro e v2 ⟨rfl, hb⟩
    have K2 := hidL (K1.out.trans (hb.mono K1.out.size))
    replace FB := hidL (FB.out.keep hb)
    clear hb HC K1 i7
    have p0 := FB.out.val.1 0 _ rfl
    have p1 := FB.out.val.1 1 _ rfl
    have p2 := FB.out.val.1 2 _ rfl
    have p3 := FB.out.val.1 3 _ rfl
    have p4 := FB.out.val.1 4 _ rfl
    have p5 := FB.out.val.1 5 _ rfl
    have p6 := FB.out.val.1 6 _ rfl
    have p7 := FB.out.val.1 7 _ rfl
    have p8 := FB.out.val.1 8 _ rfl
    have p9 := FB.out.val.1 9 _ rfl
    have p10 := FB.out.val.1 10 _ rfl
    have p11 := FB.out.val.1 11 _ rfl
    cases hz : zb
    · have hZ := HZ.out
      simp [hz] at hZ
      subst hZ
      clear HZ
      go_wp2_with fail
      go_ret
      exact ⟨rfl, K2.out⟩
    go_wp2_with fail
    refine (CT.out ei _).mono ?_
    rintro e v3 ⟨rfl, rfl⟩
    cases ht : timeB ei
    · have hZ := HZ.out
      simp [hz, ht] at hZ
      subst hZ
      clear HZ
      go_wp2_with fail
      go_ret
      exact ⟨rfl, K2.out⟩
    go_wp2_with fail
    refine (CI.out dr 0 999 _).mono ?_
    rintro e v4 ⟨rfl, rfl⟩
    cases hn : inW 0 999 dr
    · have hZ := HZ.out
      simp [hz, ht, hn] at hZ
      subst hZ
      clear HZ
      go_wp2_with fail
      go_ret
      exact ⟨rfl, K2.out⟩
    have CM : Hid (∀ X, Calls Tryz.prog 22 #[.agg #[.int .i64 4, .int .i64 ei, .int .i64 dr, .string qm, .string qh, .string qp, .slice qa qn qc, .int .i64 rs, .slice pa pn pc, .slice pb bn bc, .string tx, .bool hd]] X fun e w' => e = .returned (.int .i64 0) ∧ Below X.heap.size X w') := fun X => msg0_any X 4 ei dr qm qh qp qa qn qc rs pa pn pc pb bn bc tx hd (by decide) (by decide)
    go_wp2_with fail
    refine (CM.out _).mono ?_
    rintro e v5 ⟨rfl, hb⟩
    have K5 := hidL (K2.out.trans (hb.mono K2.out.size))
    have p10b := (FB.out.keep hb).val.1 10 _ rfl
    clear hb CM p0 p1 p2 p3 p4 p5 p6 p7 p8 p9 p10 p11
    by_cases h5 : 500 < tx.size
    · have g : (500 : Int) < (tx.size : Int) := by omega
      have hZ := HZ.out
      simp [hz, ht, hn, h5] at hZ
      subst hZ
      clear HZ
      go_wp2_with fail
      go_ret
      exact ⟨rfl, K5.out⟩
    · have g : ¬ (500 : Int) < (tx.size : Int) := by omega
      have hZ := HZ.out
      simp [hz, ht, hn, h5] at hZ
      subst hZ
      clear HZ
      go_wp2_with fail
      go_ret
      exact ⟨rfl, K5.out⟩
  by_cases k5 : kd = 5
  · subst k5
    replace CZ := hidL (CZ.out 5 _ (by decide) (by decide) rfl rfl)
    generalize hzb : evZ 5 qm qh qp ql rs pl bl ei dr tx hd = zb at *
    clear hzb
    go_enter Tryz.func7, Tryz.ntmps7
    go_upto_region 1 with fail
    rw [← HW.out]
    clear HW
    have p0 := FB.out.val.1 0 _ rfl
    have p1 := FB.out.val.1 1 _ rfl
    have p2 := FB.out.val.1 2 _ rfl
    have p3 := FB.out.val.1 3 _ rfl
    have p4 := FB.out.val.1 4 _ rfl
    have p5 := FB.out.val.1 5 _ rfl
    have p6 := FB.out.val.1 6 _ rfl
    have p7 := FB.out.val.1 7 _ rfl
    have p8 := FB.out.val.1 8 _ rfl
    have p9 := FB.out.val.1 9 _ rfl
    have p10 := FB.out.val.1 10 _ rfl
    have p11 := FB.out.val.1 11 _ rfl
    go_wp2_with fail
    refine (CI.out _ 1 7 _).mono ?_
    rintro e v0 ⟨rfl, rfl⟩
    have i7 : inW 1 7 5 = true := by decide
    go_wp2_with fail
    refine (CZ.out v0 KW.out).mono ?_
    rintro e v1 ⟨⟨v, rfl, hc⟩, hb⟩
    have K1 := hidL (KW.out.trans (hb.mono KW.out.size))
    replace FB := hidL (FB.out.keep hb)
    have HC := hidL hc
    clear hb hc CZ p0 p1 p2 p3 p4 p5 p6 p7 p8 p9 p10 p11
    go_wp2_with fail
    refine (HC.out v1 (Below.refl _ _)).mono ?_
    rintro e v2 ⟨rfl, hb⟩
    have K2 := hidL (K1.out.trans (hb.mono K1.out.size))
    replace FB := hidL (FB.out.keep hb)
    clear hb HC K1 i7
    have p0 := FB.out.val.1 0 _ rfl
    have p1 := FB.out.val.1 1 _ rfl
    have p2 := FB.out.val.1 2 _ rfl
    have p3 := FB.out.val.1 3 _ rfl
    have p4 := FB.out.val.1 4 _ rfl
    have p5 := FB.out.val.1 5 _ rfl
    have p6 := FB.out.val.1 6 _ rfl
    have p7 := FB.out.val.1 7 _ rfl
    have p8 := FB.out.val.1 8 _ rfl
    have p9 := FB.out.val.1 9 _ rfl
    have p10 := FB.out.val.1 10 _ rfl
    have p11 := FB.out.val.1 11 _ rfl
    cases hz : zb
    · have hZ := HZ.out
      simp [hz] at hZ
      subst hZ
      clear HZ
      go_wp2_with fail
      go_ret
      exact ⟨rfl, K2.out⟩
    go_wp2_with fail
    refine (CT.out ei _).mono ?_
    rintro e v3 ⟨rfl, rfl⟩
    cases ht : timeB ei
    · have hZ := HZ.out
      simp [hz, ht] at hZ
      subst hZ
      clear HZ
      go_wp2_with fail
      go_ret
      exact ⟨rfl, K2.out⟩
    go_wp2_with fail
    refine (CI.out dr 0 999 _).mono ?_
    rintro e v4 ⟨rfl, rfl⟩
    cases hn : inW 0 999 dr
    · have hZ := HZ.out
      simp [hz, ht, hn] at hZ
      subst hZ
      clear HZ
      go_wp2_with fail
      go_ret
      exact ⟨rfl, K2.out⟩
    have CM : Hid (∀ X, Calls Tryz.prog 22 #[.agg #[.int .i64 5, .int .i64 ei, .int .i64 dr, .string qm, .string qh, .string qp, .slice qa qn qc, .int .i64 rs, .slice pa pn pc, .slice pb bn bc, .string tx, .bool hd]] X fun e w' => e = .returned (.int .i64 0) ∧ Below X.heap.size X w') := fun X => msg0_any X 5 ei dr qm qh qp qa qn qc rs pa pn pc pb bn bc tx hd (by decide) (by decide)
    go_wp2_with fail
    refine (CM.out _).mono ?_
    rintro e v5 ⟨rfl, hb⟩
    have K5 := hidL (K2.out.trans (hb.mono K2.out.size))
    have p10b := (FB.out.keep hb).val.1 10 _ rfl
    clear hb CM p0 p1 p2 p3 p4 p5 p6 p7 p8 p9 p10 p11
    by_cases h5 : 500 < tx.size
    · have g : (500 : Int) < (tx.size : Int) := by omega
      have hZ := HZ.out
      simp [hz, ht, hn, h5] at hZ
      subst hZ
      clear HZ
      go_wp2_with fail
      go_ret
      exact ⟨rfl, K5.out⟩
    · have g : ¬ (500 : Int) < (tx.size : Int) := by omega
      have hZ := HZ.out
      simp [hz, ht, hn, h5] at hZ
      subst hZ
      clear HZ
      go_wp2_with fail
      go_ret
      exact ⟨rfl, K5.out⟩
  by_cases k6 : kd = 6
  · subst k6
    replace CZ := hidL (CZ.out 6 _ (by decide) (by decide) rfl rfl)
    generalize hzb : evZ 6 qm qh qp ql rs pl bl ei dr tx hd = zb at *
    clear hzb
    go_enter Tryz.func7, Tryz.ntmps7
    go_upto_region 1 with fail
    rw [← HW.out]
    clear HW
    have p0 := FB.out.val.1 0 _ rfl
    have p1 := FB.out.val.1 1 _ rfl
    have p2 := FB.out.val.1 2 _ rfl
    have p3 := FB.out.val.1 3 _ rfl
    have p4 := FB.out.val.1 4 _ rfl
    have p5 := FB.out.val.1 5 _ rfl
    have p6 := FB.out.val.1 6 _ rfl
    have p7 := FB.out.val.1 7 _ rfl
    have p8 := FB.out.val.1 8 _ rfl
    have p9 := FB.out.val.1 9 _ rfl
    have p10 := FB.out.val.1 10 _ rfl
    have p11 := FB.out.val.1 11 _ rfl
    go_wp2_with fail
    refine (CI.out _ 1 7 _).mono ?_
    rintro e v0 ⟨rfl, rfl⟩
    have i7 : inW 1 7 6 = true := by decide
    go_wp2_with fail
    refine (CZ.out v0 KW.out).mono ?_
    rintro e v1 ⟨⟨v, rfl, hc⟩, hb⟩
    have K1 := hidL (KW.out.trans (hb.mono KW.out.size))
    replace FB := hidL (FB.out.keep hb)
    have HC := hidL hc
    clear hb hc CZ p0 p1 p2 p3 p4 p5 p6 p7 p8 p9 p10 p11
    go_wp2_with fail
    refine (HC.out v1 (Below.refl _ _)).mono ?_
    rintro e v2 ⟨rfl, hb⟩
    have K2 := hidL (K1.out.trans (hb.mono K1.out.size))
    replace FB := hidL (FB.out.keep hb)
    clear hb HC K1 i7
    have p0 := FB.out.val.1 0 _ rfl
    have p1 := FB.out.val.1 1 _ rfl
    have p2 := FB.out.val.1 2 _ rfl
    have p3 := FB.out.val.1 3 _ rfl
    have p4 := FB.out.val.1 4 _ rfl
    have p5 := FB.out.val.1 5 _ rfl
    have p6 := FB.out.val.1 6 _ rfl
    have p7 := FB.out.val.1 7 _ rfl
    have p8 := FB.out.val.1 8 _ rfl
    have p9 := FB.out.val.1 9 _ rfl
    have p10 := FB.out.val.1 10 _ rfl
    have p11 := FB.out.val.1 11 _ rfl
    cases hz : zb
    · have hZ := HZ.out
      simp [hz] at hZ
      subst hZ
      clear HZ
      go_wp2_with fail
      go_ret
      exact ⟨rfl, K2.out⟩
    go_wp2_with fail
    refine (CT.out ei _).mono ?_
    rintro e v3 ⟨rfl, rfl⟩
    cases ht : timeB ei
    · have hZ := HZ.out
      simp [hz, ht] at hZ
      subst hZ
      clear HZ
      go_wp2_with fail
      go_ret
      exact ⟨rfl, K2.out⟩
    go_wp2_with fail
    refine (CI.out dr 0 999 _).mono ?_
    rintro e v4 ⟨rfl, rfl⟩
    cases hn : inW 0 999 dr
    · have hZ := HZ.out
      simp [hz, ht, hn] at hZ
      subst hZ
      clear HZ
      go_wp2_with fail
      go_ret
      exact ⟨rfl, K2.out⟩
    have CM : Hid (∀ X, Calls Tryz.prog 22 #[.agg #[.int .i64 6, .int .i64 ei, .int .i64 dr, .string qm, .string qh, .string qp, .slice qa qn qc, .int .i64 rs, .slice pa pn pc, .slice pb bn bc, .string tx, .bool hd]] X fun e w' => e = .returned (.int .i64 0) ∧ Below X.heap.size X w') := fun X => msg0_any X 6 ei dr qm qh qp qa qn qc rs pa pn pc pb bn bc tx hd (by decide) (by decide)
    go_wp2_with fail
    refine (CM.out _).mono ?_
    rintro e v5 ⟨rfl, hb⟩
    have K5 := hidL (K2.out.trans (hb.mono K2.out.size))
    have p10b := (FB.out.keep hb).val.1 10 _ rfl
    clear hb CM p0 p1 p2 p3 p4 p5 p6 p7 p8 p9 p10 p11
    by_cases h5 : 500 < tx.size
    · have g : (500 : Int) < (tx.size : Int) := by omega
      have hZ := HZ.out
      simp [hz, ht, hn, h5] at hZ
      subst hZ
      clear HZ
      go_wp2_with fail
      go_ret
      exact ⟨rfl, K5.out⟩
    · have g : ¬ (500 : Int) < (tx.size : Int) := by omega
      have hZ := HZ.out
      simp [hz, ht, hn, h5] at hZ
      subst hZ
      clear HZ
      go_wp2_with fail
      go_ret
      exact ⟨rfl, K5.out⟩
  by_cases k7 : kd = 7
  · subst k7
    replace CZ := hidL (CZ.out 7 _ (by decide) (by decide) rfl rfl)
    generalize hzb : evZ 7 qm qh qp ql rs pl bl ei dr tx hd = zb at *
    clear hzb
    go_enter Tryz.func7, Tryz.ntmps7
    go_upto_region 1 with fail
    rw [← HW.out]
    clear HW
    have p0 := FB.out.val.1 0 _ rfl
    have p1 := FB.out.val.1 1 _ rfl
    have p2 := FB.out.val.1 2 _ rfl
    have p3 := FB.out.val.1 3 _ rfl
    have p4 := FB.out.val.1 4 _ rfl
    have p5 := FB.out.val.1 5 _ rfl
    have p6 := FB.out.val.1 6 _ rfl
    have p7 := FB.out.val.1 7 _ rfl
    have p8 := FB.out.val.1 8 _ rfl
    have p9 := FB.out.val.1 9 _ rfl
    have p10 := FB.out.val.1 10 _ rfl
    have p11 := FB.out.val.1 11 _ rfl
    go_wp2_with fail
    refine (CI.out _ 1 7 _).mono ?_
    rintro e v0 ⟨rfl, rfl⟩
    have i7 : inW 1 7 7 = true := by decide
    go_wp2_with fail
    refine (CZ.out v0 KW.out).mono ?_
    rintro e v1 ⟨⟨v, rfl, hc⟩, hb⟩
    have K1 := hidL (KW.out.trans (hb.mono KW.out.size))
    replace FB := hidL (FB.out.keep hb)
    have HC := hidL hc
    clear hb hc CZ p0 p1 p2 p3 p4 p5 p6 p7 p8 p9 p10 p11
    go_wp2_with fail
    refine (HC.out v1 (Below.refl _ _)).mono ?_
    rintro e v2 ⟨rfl, hb⟩
    have K2 := hidL (K1.out.trans (hb.mono K1.out.size))
    replace FB := hidL (FB.out.keep hb)
    clear hb HC K1 i7
    have p0 := FB.out.val.1 0 _ rfl
    have p1 := FB.out.val.1 1 _ rfl
    have p2 := FB.out.val.1 2 _ rfl
    have p3 := FB.out.val.1 3 _ rfl
    have p4 := FB.out.val.1 4 _ rfl
    have p5 := FB.out.val.1 5 _ rfl
    have p6 := FB.out.val.1 6 _ rfl
    have p7 := FB.out.val.1 7 _ rfl
    have p8 := FB.out.val.1 8 _ rfl
    have p9 := FB.out.val.1 9 _ rfl
    have p10 := FB.out.val.1 10 _ rfl
    have p11 := FB.out.val.1 11 _ rfl
    cases hz : zb
    · have hZ := HZ.out
      simp [hz] at hZ
      subst hZ
      clear HZ
      go_wp2_with fail
      go_ret
      exact ⟨rfl, K2.out⟩
    go_wp2_with fail
    refine (CT.out ei _).mono ?_
    rintro e v3 ⟨rfl, rfl⟩
    cases ht : timeB ei
    · have hZ := HZ.out
      simp [hz, ht] at hZ
      subst hZ
      clear HZ
      go_wp2_with fail
      go_ret
      exact ⟨rfl, K2.out⟩
    go_wp2_with fail
    refine (CI.out dr 0 999 _).mono ?_
    rintro e v4 ⟨rfl, rfl⟩
    cases hn : inW 0 999 dr
    · have hZ := HZ.out
      simp [hz, ht, hn] at hZ
      subst hZ
      clear HZ
      go_wp2_with fail
      go_ret
      exact ⟨rfl, K2.out⟩
    have CM : Hid (∀ X, Calls Tryz.prog 22 #[.agg #[.int .i64 7, .int .i64 ei, .int .i64 dr, .string qm, .string qh, .string qp, .slice qa qn qc, .int .i64 rs, .slice pa pn pc, .slice pb bn bc, .string tx, .bool hd]] X fun e w' => e = .returned (.int .i64 0) ∧ Below X.heap.size X w') := fun X => msg0_any X 7 ei dr qm qh qp qa qn qc rs pa pn pc pb bn bc tx hd (by decide) (by decide)
    go_wp2_with fail
    refine (CM.out _).mono ?_
    rintro e v5 ⟨rfl, hb⟩
    have K5 := hidL (K2.out.trans (hb.mono K2.out.size))
    have p10b := (FB.out.keep hb).val.1 10 _ rfl
    clear hb CM p0 p1 p2 p3 p4 p5 p6 p7 p8 p9 p10 p11
    by_cases h5 : 500 < tx.size
    · have g : (500 : Int) < (tx.size : Int) := by omega
      have hZ := HZ.out
      simp [hz, ht, hn, h5] at hZ
      subst hZ
      clear HZ
      go_wp2_with fail
      go_ret
      exact ⟨rfl, K5.out⟩
    · have g : ¬ (500 : Int) < (tx.size : Int) := by omega
      have hZ := HZ.out
      simp [hz, ht, hn, h5] at hZ
      subst hZ
      clear HZ
      go_wp2_with fail
      go_ret
      exact ⟨rfl, K5.out⟩
  have n1 : (kd == 1) = false := by simpa using k1
  have n2 : (kd == 2) = false := by simpa using k2
  have n3 : (kd == 3) = false := by simpa using k3
  have n4 : (kd == 4) = false := by simpa using k4
  have n5 : (kd == 5) = false := by simpa using k5
  have n6 : (kd == 6) = false := by simpa using k6
  have n7 : (kd == 7) = false := by simpa using k7
  have hv : evZ kd qm qh qp ql rs pl bl ei dr tx hd = false := by unfold evZ; simp [k1, k2, k3, k4, k5, k6, k7]
  have hZ := HZ.out
  rw [hv] at hZ
  simp at hZ
  subst hZ
  go_enter Tryz.func7, Tryz.ntmps7
  go_upto_region 1 with fail
  rw [← HW.out]
  clear HW
  have p0 := FB.out.val.1 0 _ rfl
  go_wp2_with fail
  refine (CI.out kd 1 7 _).mono ?_
  rintro e v0 ⟨rfl, rfl⟩
  have i7 : inW 1 7 kd = false := by unfold inW; simp; omega
  go_wp2_with fail
  go_ret
  exact ⟨rfl, KW.out⟩
end Go.Proofs.YthiiaefdobpjhaaGreatDoor
/-
  The law of EventFault.
-/
namespace Go.Proofs.YthiiaefdobpjhaaGreatDoor
open Go.ChangeShapes Go.WideShapes Go.ChangeAt Go.RowKit Go.Sort
set_option maxHeartbeats 4000000 in
theorem lawEventFault (EE : Errs) (w : World) (kd ei dr : Int) (qm qh qp : ByteArray) (qa : Option Addr) (qc : Nat) (ql : List Hdr) (rs : Int) (pa : Option Addr) (pc : Nat) (pb : Option Addr) (bc : Nat) (pl : List Hdr) (bl : List UInt8) (tx : ByteArray) (hd : Bool) (hset : SetIs w) (hE : ErrsIs w EE) (z1 : qm.size ≤ maxLen) (z2 : qh.size ≤ maxLen) (z3 : qp.size ≤ maxLen) (hl : ql.length ≤ maxLen) (hz : SmallHdrs ql) (hi : HdsIn w qa ql) (pll : pl.length ≤ maxLen) (hpz : SmallHdrs pl) (hpi : HdsIn w pa pl) (hbn : bl.length ≤ maxLen) (hib : BIn w pb bl) (ht : tx.size ≤ maxLen) :
    Calls Tryz.prog 3 #[.agg #[.int .i64 kd, .int .i64 ei, .int .i64 dr, .string qm, .string qh, .string qp, .slice qa ql.length qc, .int .i64 rs, .slice pa pl.length pc, .slice pb bl.length bc, .string tx, .bool hd]] w fun e w' => e = .returned (.bool true) ∧ Below w.heap.size w w' := by
  have sr : ¬ (szEv 1048576 qm qh qp ql pl bl tx) < 0 → _ := szEv_room (Int.le_refl _)
  refine walk_Evt w kd ei dr qm qh qp qa ql.length qc rs pa pl.length pc pb bl.length bc tx hd (evC kd ei dr qm qh qp ql rs pl bl tx hd) (szEv 1048576 qm qh qp ql pl bl tx) (fun K G D => Bef (QM K ql) (Wide (CResp pl bl G D))) ?_ ?_ ?_ ?_ ?_
  · exact fun X hX => szEvent_any X kd ei dr qm qh qp qa qc ql rs pa pc pb bc pl bl tx hd z1 z2 z3 hl hz (hi.keep hX) pll hpz (hpi.keep hX) hbn ht 1048576 (by omega) (by omega)
  · exact fun h1 X hX => evT w kd ei dr qm qh qp qa qc ql rs pa pc pb bc pl bl tx hd (sr h1).2.2.2.1 (sr h1).2.2.2.2.1 (sr h1).2.2.2.2.2.1 hi hpi hib X hX
  · exact fun h1 X la ha lb hb K1 G1 D1 K2 G2 D2 c d => evQ kd ei dr qm qh qp ql rs pl bl tx hd (sr h1).2.2.2.1 (sr h1).2.2.2.2.1 (sr h1).2.2.2.2.2.1 X la ha lb hb K1 G1 D1 K2 G2 D2 c d
  · intro h1 X l h K G D _ c
    obtain ⟨l1, h1', m1, n1, _, _, _, _, _, c1, c2⟩ := c.val
    obtain ⟨p1, q1, _, _, _, c3⟩ := c2.val
    exact specEvt_any X kd ei dr qm qh qp (some ⟨K, 0, none⟩) ql.length ql rs (some ⟨G, 0, none⟩) pl.length (some ⟨D, 0, none⟩) bl.length pl bl tx hd (sr h1).2.2.2.1 (sr h1).2.2.2.2.1 (sr h1).2.2.2.2.2.1 (.inr ⟨K, 0, rfl, c1.val.1.at0⟩) (.inr ⟨G, 0, rfl, c3.val.1.1.at0⟩) (.inr ⟨D, 0, rfl, c3.val.2.1.1.at0⟩)
  · intro h1 X l h K G D hX c
    obtain ⟨l1, h1', m1, n1, _, _, _, _, _, c1, c2⟩ := c.val
    obtain ⟨p1, q1, _, _, _, c3⟩ := c2.val
    exact implEvt_any EE X kd ei dr qm qh qp (some ⟨K, 0, none⟩) ql.length ql rs (some ⟨G, 0, none⟩) pl.length (some ⟨D, 0, none⟩) bl.length pl bl tx hd (sr h1).2.2.2.1 (sr h1).2.2.2.2.1 (sr h1).2.2.2.2.2.1 (hset.below hX) (hE.below hX) (Nat.le_refl _) (sr h1).2.2.1 (.inr ⟨K, 0, rfl, c1.val.1.at0⟩) (.inr ⟨G, 0, rfl, c3.val.1.1.at0⟩) (.inr ⟨D, 0, rfl, c3.val.2.1.1.at0⟩)
end Go.Proofs.YthiiaefdobpjhaaGreatDoor
/-
  Head lines that came in, opened.
-/
namespace Go.Proofs.YthiiaefdobpjhaaGreatDoor
open Go.ChangeShapes Go.WideShapes Go.ChangeAt Go.RowKit Go.Deep
theorem headerCells : Tryz.prog.cellsOf 70 = 2 := by kernel_rfl
theorem hOneS : Tryz.prog.cellsOf 9 = 1 := by kernel_rfl
theorem hdr_of {H : Type} {enc : TypeId × Value → H} {w : World} {base : Nat} {spare : Nat → Bool} {held : Bool} {fuel : Nat} {cs : List Value} {x : DataW H × List MemPlace}
    (h : DataW.trod enc Tryz.prog w base spare held fuel 70 cs = some x) : ∃ r : Hdr, cs = [.string r.name, .string r.value] ∧ r.name.size ≤ maxLen ∧ r.value.size ≤ maxLen := by
  obtain ⟨y0, y1, n, _, hl, h0, h2⟩ := trod_struct2 Tryz.underlying70 h
  rw [headerCells] at hl
  simp only [hOneS] at h0 h2
  obtain ⟨s0, e0, _, z0⟩ := DataW.trod_string Tryz.underlying9 h0
  obtain ⟨s2, e2, _, z2⟩ := DataW.trod_string Tryz.underlying9 h2
  match cs, hl with
  | [c0, c2], _ =>
    simp only [List.drop_zero, List.take_succ_cons, List.take_zero, List.drop_succ_cons, List.cons.injEq, and_true] at e0 e2
    exact ⟨⟨s0, s2⟩, by rw [e0, e2], z0, z2⟩
theorem open_headers {H : Type} {enc : TypeId × Value → H} {w : World} {base : Nat} {spare : Nat → Bool} {held : Bool} {fuel : Nat} {a : Option Addr} {len cap : Nat} {x : DataW H × List MemPlace}
    (h : DataW.trod enc Tryz.prog w base spare held fuel 22 [.slice a len cap] = some x) :
    ∃ l : List Hdr, l.length = len ∧ len ≤ maxLen ∧ SmallHdrs l ∧ (l = [] ∨ ∃ b off, a = some ⟨b, off, none⟩ ∧ HeadsAt w b off l) := by
  rcases open_slice Tryz.underlying22 h with ⟨hcs, _⟩ | ⟨A, len', cap', m, n, D, Pl, hcs, _, hl, hm, hmm, _, hel⟩
  · simp only [List.cons.injEq, Value.slice.injEq, and_true] at hcs
    obtain ⟨_, rfl, _⟩ := hcs
    exact ⟨[], rfl, by unfold maxLen; omega, fun i r hr => by simp at hr, .inl rfl⟩
  · simp only [List.cons.injEq, Value.slice.injEq, and_true] at hcs
    obtain ⟨rfl, rfl, rfl⟩ := hcs
    have hlm : len ≤ m := by rw [hmm]; split <;> omega
    have hrec : ∀ i, i < len → ∃ r : Hdr, w.cells? base (A.add (i * 2)) 2 = some [.string r.name, .string r.value] ∧ r.name.size ≤ maxLen ∧ r.value.size ≤ maxLen := by
      intro i hi
      obtain ⟨cs', hc, ht⟩ := hel i (by omega)
      rw [headerCells] at hc
      obtain ⟨r, rfl, z⟩ := hdr_of ht
      exact ⟨r, hc, z⟩
    obtain ⟨f, hf⟩ : ∃ f : Nat → Hdr, ∀ i, i < len → w.cells? base (A.add (i * 2)) 2 = some [.string (f i).name, .string (f i).value] ∧ (f i).name.size ≤ maxLen ∧ (f i).value.size ≤ maxLen := by
      classical
      refine ⟨fun i => if hi : i < len then (hrec i hi).choose else ⟨.empty, .empty⟩, fun i hi => ?_⟩
      simp only [dif_pos hi]
      exact (hrec i hi).choose_spec
    refine ⟨(List.range len).map f, by simp, by omega, ?_, ?_⟩
    · intro i r hr
      rw [List.getElem?_map] at hr
      obtain ⟨j, hj, rfl⟩ := Option.map_eq_some_iff.1 hr
      obtain ⟨hlt, rfl⟩ := List.getElem?_eq_some_iff.1 hj
      simp at hlt
      simpa using (hf i hlt).2
    · by_cases h0 : len = 0
      · subst h0; exact .inl rfl
      · obtain ⟨b, off, spot⟩ := A
        have cells : ∀ i, i < len → ∀ j, j < 2 → w.cell? ((⟨b, off, spot⟩ : Addr).add (i * 2 + j)) = ([.string (f i).name, .string (f i).value] : List Value)[j]? := by
          intro i hi j hj
          have c := (World.cells?_some (hf i hi).1).2.2 j hj
          rw [add_add] at c
          exact c
        have hs : spot = none := by
          have c := cells 0 (by omega) 0 (by omega)
          simp only [Nat.zero_mul, Nat.add_zero, List.getElem?_cons_zero] at c
          simpa [Addr.add] using World.cell?_spot c
        subst hs
        have hadd : ∀ i, (⟨b, off, none⟩ : Addr).add i = ⟨b, off + i, none⟩ := fun i => by unfold Addr.add; split <;> simp_all
        refine .inr ⟨b, off, rfl, fun i r hr => ?_⟩
        rw [List.getElem?_map] at hr
        obtain ⟨j, hj, rfl⟩ := Option.map_eq_some_iff.1 hr
        obtain ⟨hlt, rfl⟩ := List.getElem?_eq_some_iff.1 hj
        simp only [List.length_range] at hlt
        simp only [List.getElem_range]
        have q0 := cells i hlt 0 (by omega)
        have q1 := cells i hlt 1 (by omega)
        rw [hadd] at q0 q1
        exact ⟨by simpa using q0, by simpa [Nat.add_assoc] using q1⟩
end Go.Proofs.YthiiaefdobpjhaaGreatDoor
/-
  A request and a response that came in by value, opened.
-/
namespace Go.Proofs.YthiiaefdobpjhaaGreatDoor
open Go.ChangeShapes Go.WideShapes Go.ChangeAt Go.RowKit Go.Deep
theorem requestCells : Tryz.prog.cellsOf 24 = 4 := by kernel_rfl
theorem headsOne : Tryz.prog.cellsOf 22 = 1 := by kernel_rfl
theorem slice_cs {H : Type} {enc : TypeId × Value → H} {w : World} {base : Nat} {spare : Nat → Bool} {held : Bool} {fuel : Nat} {cs : List Value} {t e : TypeId} {x : DataW H × List MemPlace}
    (hu : Tryz.prog.underlying t = some (.slice e)) (h : DataW.trod enc Tryz.prog w base spare held fuel t cs = some x) : ∃ a len cap, cs = [.slice a len cap] := by
  rcases open_slice hu h with ⟨hcs, _⟩ | ⟨A, len', cap', m, n, D, Pl, hcs, _⟩
  · exact ⟨_, _, _, hcs⟩
  · exact ⟨_, _, _, hcs⟩
set_option maxRecDepth 100000 in
theorem open_request {H : Type} {enc : TypeId × Value → H} {w : World} {r : Reach} {b0 base : Nat} {spare : Nat → Bool} {held : Bool} {v : Value} {d : DataW H} {p : List MemPlace}
    (hv : Value.okWide Tryz.prog w r b0 24 v) (h : DataW.Trod enc Tryz.prog w base spare held 24 v d p) :
    ∃ (m h p : ByteArray) (a : Option Addr) (cap : Nat) (l : List Hdr), v = .agg #[.string m, .string h, .string p, .slice a l.length cap] ∧ m.size ≤ maxLen ∧ h.size ≤ maxLen ∧ p.size ≤ maxLen ∧ l.length ≤ maxLen ∧ SmallHdrs l ∧ (l = [] ∨ ∃ b off, a = some ⟨b, off, none⟩ ∧ HeadsAt w b off l) := by
  obtain ⟨cs, rfl, hsz⟩ := okWide_struct Tryz.underlying24 hv
  obtain ⟨fuel, hf0⟩ := h
  obtain ⟨xs, n, _, _, hl, hlen, hf⟩ := DataW.trod_struct Tryz.underlying24 hf0
  match xs, hlen with
  | [y0, y1, y2, y3], _ =>
    have h0 : DataW.trod enc Tryz.prog w base spare held n 9 (((Value.agg cs).cells.toList.drop 0).take (Tryz.prog.cellsOf 9)) = some y0 := hf 0 _ rfl
    have h1 : DataW.trod enc Tryz.prog w base spare held n 9 (((Value.agg cs).cells.toList.drop 1).take (Tryz.prog.cellsOf 9)) = some y1 := hf 1 _ rfl
    have h2 : DataW.trod enc Tryz.prog w base spare held n 9 (((Value.agg cs).cells.toList.drop 2).take (Tryz.prog.cellsOf 9)) = some y2 := hf 2 _ rfl
    have h3 : DataW.trod enc Tryz.prog w base spare held n 22 (((Value.agg cs).cells.toList.drop 3).take (Tryz.prog.cellsOf 22)) = some y3 := hf 3 _ rfl
    rw [hOneS] at h0 h1 h2
    rw [headsOne] at h3
    obtain ⟨s0, e0, _, z0⟩ := DataW.trod_string Tryz.underlying9 h0
    obtain ⟨s1, e1, _, z1⟩ := DataW.trod_string Tryz.underlying9 h1
    obtain ⟨s2, e2, _, z2⟩ := DataW.trod_string Tryz.underlying9 h2
    obtain ⟨a, len, cap, e3⟩ := slice_cs Tryz.underlying22 h3
    rw [e3] at h3
    obtain ⟨l, rfl, m3, s3, o3⟩ := open_headers h3
    refine ⟨s0, s1, s2, a, cap, l, ?_, z0, z1, z2, m3, s3, o3⟩
    have e : cs.toList = [.string s0, .string s1, .string s2, .slice a l.length cap] := by
      simp only [Value.cells] at e0 e1 e2 e3 hl
      rw [requestCells] at hl
      match hc : cs.toList, hl with
      | [c0, c1, c2, c3], _ =>
        rw [hc] at e0 e1 e2 e3
        simp only [List.drop_zero, List.take_succ_cons, List.take_zero, List.drop_succ_cons, List.cons.injEq, and_true] at e0 e1 e2 e3
        rw [e0, e1, e2, e3]
    congr 1
    exact Array.toList_inj.1 e
end Go.Proofs.YthiiaefdobpjhaaGreatDoor
/-
  A response, a row of bytes, a list of texts that came in, opened.
-/
namespace Go.Proofs.YthiiaefdobpjhaaGreatDoor
open Go.ChangeShapes Go.WideShapes Go.ChangeAt Go.RowKit Go.Deep
theorem bytesOne : Tryz.prog.cellsOf 5 = 1 := by kernel_rfl
theorem open_bytes {H : Type} {enc : TypeId × Value → H} {w : World} {base : Nat} {spare : Nat → Bool} {held : Bool} {fuel : Nat} {a : Option Addr} {len cap : Nat} {x : DataW H × List MemPlace}
    (h : DataW.trod enc Tryz.prog w base spare held fuel 25 [.slice a len cap] = some x) : ∃ l : List UInt8, l.length = len ∧ len ≤ maxLen ∧ BIn w a l := by
  rcases open_ints Tryz.underlying25 Tryz.underlying5 bytesOne h with ⟨hcs, _⟩ | ⟨A, l', c', zs, hcs, _, hl, hm, hz, _, hcell, hwz⟩
  · simp only [List.cons.injEq, Value.slice.injEq, and_true] at hcs
    obtain ⟨_, rfl, _⟩ := hcs
    exact ⟨[], rfl, by unfold maxLen; omega, .inl rfl⟩
  · simp only [List.cons.injEq, Value.slice.injEq, and_true] at hcs
    obtain ⟨rfl, rfl, rfl⟩ := hcs
    have hlz : len ≤ zs.length := by rw [hz]; split <;> omega
    refine ⟨(zs.take len).map fun z => UInt8.ofNat z.toNat, by simp; omega, by omega, ?_⟩
    by_cases h0 : len = 0
    · subst h0; exact .inl rfl
    · obtain ⟨b, off, spot⟩ := A
      have hc := hcell 0 (by omega)
      have hspot : spot = none := by simpa [Addr.add] using World.cell?_spot hc
      subst hspot
      have hadd : ∀ i, (⟨b, off, none⟩ : Addr).add i = ⟨b, off + i, none⟩ := fun i => by unfold Addr.add; split <;> simp_all
      refine .inr ⟨b, off, rfl, fun i c hr => ?_⟩
      rw [List.getElem?_map] at hr
      obtain ⟨z, hz1, rfl⟩ := Option.map_eq_some_iff.1 hr
      have hi : i < len := by have := (List.getElem?_eq_some_iff.1 hz1).1; simp at this; omega
      rw [List.getElem?_take_of_lt hi] at hz1
      have h1 := hcell i (by omega)
      rw [hadd, List.getD_eq_getElem?_getD, hz1] at h1
      rw [h1]
      have hw := hwz z (List.mem_of_getElem? hz1)
      simp only [Lit.wf, Bool.and_eq_true, decide_eq_true_eq] at hw
      have w1 : 0 ≤ z := hw.1
      have w2 : z ≤ 255 := hw.2
      have e : ((UInt8.ofNat z.toNat).toNat : Int) = z := by
        rw [UInt8.toNat_ofNat']
        omega
      rw [e]; rfl
theorem responseCells : Tryz.prog.cellsOf 27 = 3 := by kernel_rfl
theorem byteSOne : Tryz.prog.cellsOf 25 = 1 := by kernel_rfl
theorem intOne : Tryz.prog.cellsOf 2 = 1 := by kernel_rfl
set_option maxRecDepth 100000 in
theorem open_response {H : Type} {enc : TypeId × Value → H} {w : World} {r : Reach} {b0 base : Nat} {spare : Nat → Bool} {held : Bool} {v : Value} {d : DataW H} {p : List MemPlace}
    (hv : Value.okWide Tryz.prog w r b0 27 v) (h : DataW.Trod enc Tryz.prog w base spare held 27 v d p) :
    ∃ (z : Int) (a : Option Addr) (cap : Nat) (l : List Hdr) (b : Option Addr) (bc : Nat) (bl : List UInt8), v = .agg #[.int .i64 z, .slice a l.length cap, .slice b bl.length bc] ∧ l.length ≤ maxLen ∧ SmallHdrs l ∧ (l = [] ∨ ∃ b off, a = some ⟨b, off, none⟩ ∧ HeadsAt w b off l) ∧ bl.length ≤ maxLen ∧ BIn w b bl := by
  obtain ⟨cs, rfl, hsz⟩ := okWide_struct Tryz.underlying27 hv
  obtain ⟨fuel, hf0⟩ := h
  obtain ⟨xs, n, _, _, hl, hlen, hf⟩ := DataW.trod_struct Tryz.underlying27 hf0
  match xs, hlen with
  | [y0, y1, y2], _ =>
    have h0 : DataW.trod enc Tryz.prog w base spare held n 2 (((Value.agg cs).cells.toList.drop 0).take (Tryz.prog.cellsOf 2)) = some y0 := hf 0 _ rfl
    have h1 : DataW.trod enc Tryz.prog w base spare held n 22 (((Value.agg cs).cells.toList.drop 1).take (Tryz.prog.cellsOf 22)) = some y1 := hf 1 _ rfl
    have h2 : DataW.trod enc Tryz.prog w base spare held n 25 (((Value.agg cs).cells.toList.drop 2).take (Tryz.prog.cellsOf 25)) = some y2 := hf 2 _ rfl
    rw [intOne] at h0
    rw [headsOne] at h1
    rw [byteSOne] at h2
    obtain ⟨s0, e0, _⟩ := DataW.trod_int Tryz.underlying2 h0
    obtain ⟨a, len, cap, e1⟩ := slice_cs Tryz.underlying22 h1
    rw [e1] at h1
    obtain ⟨l, rfl, m3, s3, o3⟩ := open_headers h1
    obtain ⟨b, bn, bc, e2⟩ := slice_cs Tryz.underlying25 h2
    rw [e2] at h2
    obtain ⟨bl, rfl, m4, o4⟩ := open_bytes h2
    refine ⟨s0, a, cap, l, b, bc, bl, ?_, m3, s3, o3, m4, o4⟩
    have e : cs.toList = [.int .i64 s0, .slice a l.length cap, .slice b bl.length bc] := by
      simp only [Value.cells] at e0 e1 e2 hl
      rw [responseCells] at hl
      match hc : cs.toList, hl with
      | [c0, c1, c2], _ =>
        rw [hc] at e0 e1 e2
        simp only [List.drop_zero, List.take_succ_cons, List.take_zero, List.drop_succ_cons, List.cons.injEq, and_true] at e0 e1 e2
        rw [e0, e1, e2]
    congr 1
    exact Array.toList_inj.1 e
end Go.Proofs.YthiiaefdobpjhaaGreatDoor
/-
  An event that came in, opened.
-/
namespace Go.Proofs.YthiiaefdobpjhaaGreatDoor
open Go.ChangeShapes Go.WideShapes Go.ChangeAt Go.RowKit Go.Deep
theorem ev1I : Tryz.prog.cellsOf 2 = 1 := by kernel_rfl
theorem ev1S : Tryz.prog.cellsOf 9 = 1 := by kernel_rfl
theorem ev1B : Tryz.prog.cellsOf 4 = 1 := by kernel_rfl
theorem ev1H : Tryz.prog.cellsOf 22 = 1 := by kernel_rfl
theorem ev1U : Tryz.prog.cellsOf 25 = 1 := by kernel_rfl
theorem ev1R : Tryz.prog.cellsOf 24 = 4 := by kernel_rfl
theorem ev1P : Tryz.prog.cellsOf 27 = 3 := by kernel_rfl
theorem evCells : Tryz.prog.cellsOf 29 = 12 := by kernel_rfl
theorem evSliceCap {Hh : Type} {enc : TypeId × Value → Hh} {P : Program} {w : World} {base : Nat} {spare : Nat → Bool} {held : Bool} {fuel : Nat} {t e : TypeId} {a : Option Addr} {n c : Nat} {x : DataW Hh × List MemPlace} (ht : P.underlying t = some (.slice e))
    (h : DataW.trod enc P w base spare held fuel t [.slice a n c] = some x) : n ≤ c := by
  rcases open_slice ht h with ⟨hcs, _⟩ | ⟨A, len', cap', m, n', D, Pl, hcs, _, hl, _⟩
  · simp only [List.cons.injEq, Value.slice.injEq, and_true] at hcs
    omega
  · simp only [List.cons.injEq, Value.slice.injEq, and_true] at hcs
    omega
set_option maxRecDepth 100000 in
theorem evReq_cs {Hh : Type} {enc : TypeId × Value → Hh} {w : World} {base : Nat} {spare : Nat → Bool} {held : Bool} {fuel : Nat} {cs : List Value} {x : DataW Hh × List MemPlace}
    (h : DataW.trod enc Tryz.prog w base spare held fuel 24 cs = some x) : ∃ (m h p : ByteArray) (ha : Option Addr) (hc : Nat) (hs : List Hdr), cs = [.string m, .string h, .string p, .slice ha hs.length hc] ∧ m.size ≤ maxLen ∧ h.size ≤ maxLen ∧ p.size ≤ maxLen ∧ hs.length ≤ maxLen ∧ SmallHdrs hs ∧ HdsIn w ha hs ∧ hs.length ≤ hc := by
  obtain ⟨xs, n, _, _, hl, hlen, hf⟩ := DataW.trod_struct Tryz.underlying24 h
  match xs, hlen with
  | [y0, y1, y2, y3], _ =>
    have h0 : DataW.trod enc Tryz.prog w base spare held n 9 ((cs.drop 0).take (Tryz.prog.cellsOf 9)) = some y0 := hf 0 _ rfl
    have h1 : DataW.trod enc Tryz.prog w base spare held n 9 ((cs.drop 1).take (Tryz.prog.cellsOf 9)) = some y1 := hf 1 _ rfl
    have h2 : DataW.trod enc Tryz.prog w base spare held n 9 ((cs.drop 2).take (Tryz.prog.cellsOf 9)) = some y2 := hf 2 _ rfl
    have h3 : DataW.trod enc Tryz.prog w base spare held n 22 ((cs.drop 3).take (Tryz.prog.cellsOf 22)) = some y3 := hf 3 _ rfl
    rw [ev1S] at h0 h1 h2
    rw [ev1H] at h3
    obtain ⟨s0, e0, _, z0⟩ := DataW.trod_string Tryz.underlying9 h0
    obtain ⟨s1, e1, _, z1⟩ := DataW.trod_string Tryz.underlying9 h1
    obtain ⟨s2, e2, _, z2⟩ := DataW.trod_string Tryz.underlying9 h2
    obtain ⟨ha, hn, hc, e3⟩ := slice_cs Tryz.underlying22 h3
    rw [e3] at h3
    obtain ⟨l, rfl, m3, sm3, o3⟩ := open_headers h3
    refine ⟨s0, s1, s2, ha, hc, l, ?_, z0, z1, z2, m3, sm3, o3, evSliceCap Tryz.underlying22 h3⟩
    rw [ev1R] at hl
    match cs, hl with
    | [c0, c1, c2, c3], _ =>
      simp only [List.drop_zero, List.take_succ_cons, List.take_zero, List.drop_succ_cons, List.cons.injEq, and_true] at e0 e1 e2 e3
      rw [e0, e1, e2, e3]
set_option maxRecDepth 100000 in
theorem evResp_cs {Hh : Type} {enc : TypeId × Value → Hh} {w : World} {base : Nat} {spare : Nat → Bool} {held : Bool} {fuel : Nat} {cs : List Value} {x : DataW Hh × List MemPlace}
    (h : DataW.trod enc Tryz.prog w base spare held fuel 27 cs = some x) : ∃ (s : Int) (a : Option Addr) (cap : Nat) (l : List Hdr) (b : Option Addr) (bc : Nat) (bl : List UInt8), cs = [.int .i64 s, .slice a l.length cap, .slice b bl.length bc] ∧ l.length ≤ maxLen ∧ SmallHdrs l ∧ HdsIn w a l ∧ bl.length ≤ maxLen ∧ BIn w b bl := by
  obtain ⟨xs, n, _, _, hl, hlen, hf⟩ := DataW.trod_struct Tryz.underlying27 h
  match xs, hlen with
  | [y0, y1, y2], _ =>
    have h0 : DataW.trod enc Tryz.prog w base spare held n 2 ((cs.drop 0).take (Tryz.prog.cellsOf 2)) = some y0 := hf 0 _ rfl
    have h1 : DataW.trod enc Tryz.prog w base spare held n 22 ((cs.drop 1).take (Tryz.prog.cellsOf 22)) = some y1 := hf 1 _ rfl
    have h2 : DataW.trod enc Tryz.prog w base spare held n 25 ((cs.drop 2).take (Tryz.prog.cellsOf 25)) = some y2 := hf 2 _ rfl
    rw [ev1I] at h0
    rw [ev1H] at h1
    rw [ev1U] at h2
    obtain ⟨s0, e0, _⟩ := DataW.trod_int Tryz.underlying2 h0
    obtain ⟨ha, hn, hc, e1⟩ := slice_cs Tryz.underlying22 h1
    rw [e1] at h1
    obtain ⟨l, rfl, m3, sm3, o3⟩ := open_headers h1
    obtain ⟨ba, bn, bc, e2⟩ := slice_cs Tryz.underlying25 h2
    rw [e2] at h2
    obtain ⟨bl, rfl, mb, ob⟩ := open_bytes h2
    refine ⟨s0, ha, hc, l, ba, bc, bl, ?_, m3, sm3, o3, mb, ob⟩
    rw [ev1P] at hl
    match cs, hl with
    | [c0, c1, c2], _ =>
      simp only [List.drop_zero, List.take_succ_cons, List.take_zero, List.drop_succ_cons, List.cons.injEq, and_true] at e0 e1 e2
      rw [e0, e1, e2]
set_option maxRecDepth 100000 in
theorem ev_of {Hh : Type} {enc : TypeId × Value → Hh} {w : World} {base : Nat} {spare : Nat → Bool} {held : Bool} {fuel : Nat} {cs : List Value} {x : DataW Hh × List MemPlace}
    (h : DataW.trod enc Tryz.prog w base spare held fuel 29 cs = some x) : ∃ (kd ei dr : Int) (qm qh qp : ByteArray) (qa : Option Addr) (qc : Nat) (ql : List Hdr) (rs : Int) (pa : Option Addr) (pc : Nat) (pb : Option Addr) (bc : Nat) (pl : List Hdr) (bl : List UInt8) (tx : ByteArray) (hd : Bool), cs = [.int .i64 kd, .int .i64 ei, .int .i64 dr, .string qm, .string qh, .string qp, .slice qa ql.length qc, .int .i64 rs, .slice pa pl.length pc, .slice pb bl.length bc, .string tx, .bool hd] ∧ qm.size ≤ maxLen ∧ qh.size ≤ maxLen ∧ qp.size ≤ maxLen ∧ ql.length ≤ maxLen ∧ SmallHdrs ql ∧ HdsIn w qa ql ∧ ql.length ≤ qc ∧ pl.length ≤ maxLen ∧ SmallHdrs pl ∧ HdsIn w pa pl ∧ bl.length ≤ maxLen ∧ BIn w pb bl ∧ tx.size ≤ maxLen := by
  obtain ⟨xs, n, _, _, hl, hlen, hf⟩ := DataW.trod_struct Tryz.underlying29 h
  match xs, hlen with
  | [y0, y1, y2, y3, y4, y5, y6], _ =>
    have h0 : DataW.trod enc Tryz.prog w base spare held n 2 ((cs.drop 0).take (Tryz.prog.cellsOf 2)) = some y0 := hf 0 _ rfl
    have h1 : DataW.trod enc Tryz.prog w base spare held n 2 ((cs.drop 1).take (Tryz.prog.cellsOf 2)) = some y1 := hf 1 _ rfl
    have h2 : DataW.trod enc Tryz.prog w base spare held n 2 ((cs.drop 2).take (Tryz.prog.cellsOf 2)) = some y2 := hf 2 _ rfl
    have h3 : DataW.trod enc Tryz.prog w base spare held n 24 ((cs.drop 3).take (Tryz.prog.cellsOf 24)) = some y3 := hf 3 _ rfl
    have h4 : DataW.trod enc Tryz.prog w base spare held n 27 ((cs.drop 7).take (Tryz.prog.cellsOf 27)) = some y4 := hf 4 _ rfl
    have h5 : DataW.trod enc Tryz.prog w base spare held n 9 ((cs.drop 10).take (Tryz.prog.cellsOf 9)) = some y5 := hf 5 _ rfl
    have h6 : DataW.trod enc Tryz.prog w base spare held n 4 ((cs.drop 11).take (Tryz.prog.cellsOf 4)) = some y6 := hf 6 _ rfl
    rw [ev1I] at h0 h1 h2
    rw [ev1R] at h3
    rw [ev1P] at h4
    rw [ev1S] at h5
    rw [ev1B] at h6
    obtain ⟨s0, e0, _⟩ := DataW.trod_int Tryz.underlying2 h0
    obtain ⟨s1, e1, _⟩ := DataW.trod_int Tryz.underlying2 h1
    obtain ⟨s2, e2, _⟩ := DataW.trod_int Tryz.underlying2 h2
    obtain ⟨m, ho, p, qa, qc, ql, e3, a1, a2, a3, a4, a5, a6, a7⟩ := evReq_cs h3
    obtain ⟨rs, pa, pc, pl, pb, bc, bl, e4, b1, b2, b3, b4, b5⟩ := evResp_cs h4
    obtain ⟨s5, e5, _, z5⟩ := DataW.trod_string Tryz.underlying9 h5
    obtain ⟨s6, e6, _⟩ := DataW.trod_bool Tryz.underlying4 h6
    refine ⟨s0, s1, s2, m, ho, p, qa, qc, ql, rs, pa, pc, pb, bc, pl, bl, s5, s6, ?_, a1, a2, a3, a4, a5, a6, a7, b1, b2, b3, b4, b5, z5⟩
    rw [evCells] at hl
    match cs, hl with
    | [c0, c1, c2, c3, c4, c5, c6, c7, c8, c9, c10, c11], _ =>
      simp only [List.drop_zero, List.take_succ_cons, List.take_zero, List.drop_succ_cons, List.cons.injEq, and_true] at e0 e1 e2 e3 e4 e5 e6
      obtain ⟨f3, f4, f5, f6⟩ := e3
      obtain ⟨f7, f8, f9⟩ := e4
      rw [e0, e1, e2, f3, f4, f5, f6, f7, f8, f9, e5, e6]
set_option maxRecDepth 100000 in
theorem open_event {Hh : Type} {enc : TypeId × Value → Hh} {w : World} {r : Reach} {b0 base : Nat} {spare : Nat → Bool} {held : Bool} {v : Value} {d : DataW Hh} {p : List MemPlace}
    (hv : Value.okWide Tryz.prog w r b0 29 v) (h : DataW.Trod enc Tryz.prog w base spare held 29 v d p) : ∃ (kd ei dr : Int) (qm qh qp : ByteArray) (qa : Option Addr) (qc : Nat) (ql : List Hdr) (rs : Int) (pa : Option Addr) (pc : Nat) (pb : Option Addr) (bc : Nat) (pl : List Hdr) (bl : List UInt8) (tx : ByteArray) (hd : Bool), v = .agg #[.int .i64 kd, .int .i64 ei, .int .i64 dr, .string qm, .string qh, .string qp, .slice qa ql.length qc, .int .i64 rs, .slice pa pl.length pc, .slice pb bl.length bc, .string tx, .bool hd] ∧ qm.size ≤ maxLen ∧ qh.size ≤ maxLen ∧ qp.size ≤ maxLen ∧ ql.length ≤ maxLen ∧ SmallHdrs ql ∧ HdsIn w qa ql ∧ ql.length ≤ qc ∧ pl.length ≤ maxLen ∧ SmallHdrs pl ∧ HdsIn w pa pl ∧ bl.length ≤ maxLen ∧ BIn w pb bl ∧ tx.size ≤ maxLen := by
  obtain ⟨cs, rfl, hsz⟩ := okWide_struct Tryz.underlying29 hv
  obtain ⟨fuel, hf0⟩ := h
  obtain ⟨kd, ei, dr, qm, qh, qp, qa, qc, ql, rs, pa, pc, pb, bc, pl, bl, tx, hd, e, h1⟩ := ev_of hf0
  refine ⟨kd, ei, dr, qm, qh, qp, qa, qc, ql, rs, pa, pc, pb, bc, pl, bl, tx, hd, ?_, h1⟩
  simp only [Value.cells] at e
  show Value.agg cs = .agg _
  congr 1
  exact Array.toList_inj.1 e
end Go.Proofs.YthiiaefdobpjhaaGreatDoor
/-
  Facts of the program as a whole that every card of this seat leans on: each reckoned by the kernel, each by itself.
-/
namespace Go.Proofs.YthiiaefdobpjhaaGreatDoor
theorem pf_laid : laidOutB Tryz.prog = true := by kernel_rfl
theorem pf_maps : mapsRowed Tryz.prog = true := by kernel_rfl
theorem pf_stops : (Tryz.prog.stops == []) = true := by kernel_rfl
theorem pf_knobs : (Tryz.prog.stopKnobs == []) = true := by kernel_rfl
theorem pf_heard : Tryz.prog.stopsHeard = true := by kernel_rfl
theorem pf_enter : Tryz.prog.mayEnter = true := by kernel_rfl
theorem pf_prog : Tryz.pinned.checked.prog = Tryz.prog := by kernel_rfl
end Go.Proofs.YthiiaefdobpjhaaGreatDoor
/-
  As many variables are read as are named.
-/
namespace Go.Proofs.YthiiaefdobpjhaaGreatDoor
theorem trodVars_len {H : Type} {enc : TypeId × Value → H} {P : Program} {W : World} {sp : Nat → Bool} : ∀ {ns : List String} {gs : List (DataW H)} {ps : List MemPlace}, DataW.TrodVars enc P W sp ns gs ps → gs.length = ns.length
  | [], [], _, _ => rfl
  | [], _ :: _, _, h => h.elim
  | _ :: _, [], _, h => h.elim
  | n :: ns, d :: ds, ps, h => by
    obtain ⟨g, t, cs, fuel, p, q, h1, h2, h3, h4, hs, e⟩ := h
    simp [trodVars_len hs]
end Go.Proofs.YthiiaefdobpjhaaGreatDoor
