/-
  Texts of one claim, one behind the other.
-/
import Derived.Deep.RegionHeld3
import Derived.Lib.AppendZeros
import Derived.Lib.CutLaws
import Derived.Lib.IndexMore
import Derived.Lib.SliceRun
import Derived.Lib.Strings
import Derived.Test.YtlbagfaiiileoaaGreatDoorMgC
/-
  A new shield, as the laws compare, mark and hold it.
-/
namespace Go.Proofs.YtlbagfaiiileoaaGreatDoor
open Go.ChangeShapes Go.WideShapes Go.ChangeAt Go.RowKit Go.Sort
set_option maxRecDepth 100000 in
set_option maxHeartbeats 4000000 in
theorem cfgN_Q (jcb jcg jco jcn jce jcf jct jcc jls jlc jlt jr1 jr2 jr3 jr4 jr5 : Int) (L : List ByteArray) (xa : Option Addr) (xk : Nat) (ya : Option Addr) (yk : Nat) (hL : L.length ≤ 1048576) (w : World) (i : TIn w xa L) (j : TIn w ya L) :
    Calls Tryz.prog 18 #[.agg #[.int .i64 jcb, .int .i64 jcg, .int .i64 jco, .int .i64 jcn, .int .i64 jce, .int .i64 jcf, .int .i64 jct, .int .i64 jcc, .slice xa L.length xk, .int .i64 jls, .int .i64 jlc, .int .i64 jlt, .int .i64 jr1, .int .i64 jr2, .int .i64 jr3, .int .i64 jr4, .int .i64 jr5], .agg #[.int .i64 jcb, .int .i64 jcg, .int .i64 jco, .int .i64 jcn, .int .i64 jce, .int .i64 jcf, .int .i64 jct, .int .i64 jcc, .slice ya L.length yk, .int .i64 jls, .int .i64 jlc, .int .i64 jlt, .int .i64 jr1, .int .i64 jr2, .int .i64 jr3, .int .i64 jr4, .int .i64 jr5]] w fun e w' => e = .returned (.bool true) ∧ Below w.heap.size w w' := by
  have C0 : Hid (∀ X, Below w.heap.size w X → Calls Tryz.prog 62 #[.slice xa L.length xk, .slice ya L.length yk] X fun e w' => e = .returned (.bool true) ∧ Below X.heap.size X w') := fun X hX => eqStringS_same X xa ya xk yk L hL (i.keep hX) (j.keep hX)
  have C1 := hidL (fun X => eqLanes_any jls jlc jlt X)
  have C2 := hidL (fun X => eqRules_any jr1 jr2 jr3 jr4 jr5 X)
  obtain ⟨W, hW⟩ : ∃ W, W = (w.alloc (.cells #[.int .i64 jcb, .int .i64 jcg, .int .i64 jco, .int .i64 jcn, .int .i64 jce, .int .i64 jcf, .int .i64 jct, .int .i64 jcc, .slice xa L.length xk, .int .i64 jls, .int .i64 jlc, .int .i64 jlt, .int .i64 jr1, .int .i64 jr2, .int .i64 jr3, .int .i64 jr4, .int .i64 jr5] 41)).alloc (.cells #[.int .i64 jcb, .int .i64 jcg, .int .i64 jco, .int .i64 jcn, .int .i64 jce, .int .i64 jcf, .int .i64 jct, .int .i64 jcc, .slice ya L.length yk, .int .i64 jls, .int .i64 jlc, .int .i64 jlt, .int .i64 jr1, .int .i64 jr2, .int .i64 jr3, .int .i64 jr4, .int .i64 jr5] 41) := ⟨_, rfl⟩
  have HW : Hid (W = (w.alloc (.cells #[.int .i64 jcb, .int .i64 jcg, .int .i64 jco, .int .i64 jcn, .int .i64 jce, .int .i64 jcf, .int .i64 jct, .int .i64 jcc, .slice xa L.length xk, .int .i64 jls, .int .i64 jlc, .int .i64 jlt, .int .i64 jr1, .int .i64 jr2, .int .i64 jr3, .int .i64 jr4, .int .i64 jr5] 41)).alloc (.cells #[.int .i64 jcb, .int .i64 jcg, .int .i64 jco, .int .i64 jcn, .int .i64 jce, .int .i64 jcf, .int .i64 jct, .int .i64 jcc, .slice ya L.length yk, .int .i64 jls, .int .i64 jlc, .int .i64 jlt, .int .i64 jr1, .int .i64 jr2, .int .i64 jr3, .int .i64 jr4, .int .i64 jr5] 41)) := hW
  have KW := hidL (show Below w.heap.size w W by rw [hW]; exact ((Below.refl _ _).alloc (Nat.le_refl _) _).alloc (by simp) _)
  have A0 := hidL (show At w.heap.size (w.heap.size + 1) (Bx w.heap.size [.int .i64 jcb, .int .i64 jcg, .int .i64 jco, .int .i64 jcn, .int .i64 jce, .int .i64 jcf, .int .i64 jct, .int .i64 jcc, .slice xa L.length xk, .int .i64 jls, .int .i64 jlc, .int .i64 jlt, .int .i64 jr1, .int .i64 jr2, .int .i64 jr3, .int .i64 jr4, .int .i64 jr5]) W by rw [hW]; exact (Bx.new _ [.int .i64 jcb, .int .i64 jcg, .int .i64 jco, .int .i64 jcn, .int .i64 jce, .int .i64 jcf, .int .i64 jct, .int .i64 jcc, .slice xa L.length xk, .int .i64 jls, .int .i64 jlc, .int .i64 jlt, .int .i64 jr1, .int .i64 jr2, .int .i64 jr3, .int .i64 jr4, .int .i64 jr5] _).al _)
  have A1 := hidL (show At (w.heap.size + 1) (w.heap.size + 1 + 1) (Bx (w.heap.size + 1) [.int .i64 jcb, .int .i64 jcg, .int .i64 jco, .int .i64 jcn, .int .i64 jce, .int .i64 jcf, .int .i64 jct, .int .i64 jcc, .slice ya L.length yk, .int .i64 jls, .int .i64 jlc, .int .i64 jlt, .int .i64 jr1, .int .i64 jr2, .int .i64 jr3, .int .i64 jr4, .int .i64 jr5]) W by rw [hW]; exact Bx.newAt (by simp) [.int .i64 jcb, .int .i64 jcg, .int .i64 jco, .int .i64 jcn, .int .i64 jce, .int .i64 jcf, .int .i64 jct, .int .i64 jcc, .slice ya L.length yk, .int .i64 jls, .int .i64 jlc, .int .i64 jlt, .int .i64 jr1, .int .i64 jr2, .int .i64 jr3, .int .i64 jr4, .int .i64 jr5] _)
  clear hW i j hL
  generalize L.length = n at *
  go_enter Tryz.func18, Tryz.ntmps18
  go_wp2_with fail
  rw [← HW.out]
  clear HW
  refine (C0.out W KW.out).mono ?_
  rintro e w1 ⟨rfl, hb⟩
  have K1 := hidL (KW.out.trans (hb.mono KW.out.size))
  replace A0 := hidL (A0.out.keep hb)
  replace A1 := hidL (A1.out.keep hb)
  have p9 := A0.out.val.1 9 _ rfl
  have q9 := A1.out.val.1 9 _ rfl
  have p10 := A0.out.val.1 10 _ rfl
  have q10 := A1.out.val.1 10 _ rfl
  have p11 := A0.out.val.1 11 _ rfl
  have q11 := A1.out.val.1 11 _ rfl
  clear hb KW C0
  go_wp2_with fail
  refine (C1.out w1).mono ?_
  rintro e w2 ⟨rfl, hb⟩
  have K2 := hidL (K1.out.trans (hb.mono K1.out.size))
  replace A0 := hidL (A0.out.keep hb)
  replace A1 := hidL (A1.out.keep hb)
  clear p9 p10 p11 q9 q10 q11
  have p12 := A0.out.val.1 12 _ rfl
  have q12 := A1.out.val.1 12 _ rfl
  have p13 := A0.out.val.1 13 _ rfl
  have q13 := A1.out.val.1 13 _ rfl
  have p14 := A0.out.val.1 14 _ rfl
  have q14 := A1.out.val.1 14 _ rfl
  have p15 := A0.out.val.1 15 _ rfl
  have q15 := A1.out.val.1 15 _ rfl
  have p16 := A0.out.val.1 16 _ rfl
  have q16 := A1.out.val.1 16 _ rfl
  clear hb K1 C1
  go_wp2_with fail
  refine (C2.out w2).mono ?_
  rintro e w3 ⟨rfl, hb⟩
  have K3 := hidL (K2.out.trans (hb.mono K2.out.size))
  clear hb K2 C2
  go_wp2_with fail
  go_ret
  exact ⟨rfl, K3.out⟩
set_option maxRecDepth 100000 in
set_option maxHeartbeats 8000000 in
theorem shN_Q (jcb jcg jco jcn jce jcf jct jcc jls jlc jlt jr1 jr2 jr3 jr4 jr5 : Int) (sb sg : Int) (L : List ByteArray) (xa : Option Addr) (xk : Nat) (ya : Option Addr) (yk : Nat) (hL : L.length ≤ 1048576) (w : World) (i : TIn w xa L) (j : TIn w ya L) :
    Calls Tryz.prog 12 #[.agg #[.int .i64 jcb, .int .i64 jcg, .int .i64 jco, .int .i64 jcn, .int .i64 jce, .int .i64 jcf, .int .i64 jct, .int .i64 jcc, .slice xa L.length xk, .int .i64 jls, .int .i64 jlc, .int .i64 jlt, .int .i64 jr1, .int .i64 jr2, .int .i64 jr3, .int .i64 jr4, .int .i64 jr5, .int .i64 0, .int .i64 0, .int .i64 sb, .int .i64 sg, .slice none 0 0, .slice none 0 0, .slice none 0 0, .slice none 0 0], .agg #[.int .i64 jcb, .int .i64 jcg, .int .i64 jco, .int .i64 jcn, .int .i64 jce, .int .i64 jcf, .int .i64 jct, .int .i64 jcc, .slice ya L.length yk, .int .i64 jls, .int .i64 jlc, .int .i64 jlt, .int .i64 jr1, .int .i64 jr2, .int .i64 jr3, .int .i64 jr4, .int .i64 jr5, .int .i64 0, .int .i64 0, .int .i64 sb, .int .i64 sg, .slice none 0 0, .slice none 0 0, .slice none 0 0, .slice none 0 0]] w fun e w' => e = .returned (.bool true) ∧ Below w.heap.size w w' := by
  have C0 : Hid (∀ X, Below w.heap.size w X → Calls Tryz.prog 18 #[.agg #[.int .i64 jcb, .int .i64 jcg, .int .i64 jco, .int .i64 jcn, .int .i64 jce, .int .i64 jcf, .int .i64 jct, .int .i64 jcc, .slice xa L.length xk, .int .i64 jls, .int .i64 jlc, .int .i64 jlt, .int .i64 jr1, .int .i64 jr2, .int .i64 jr3, .int .i64 jr4, .int .i64 jr5], .agg #[.int .i64 jcb, .int .i64 jcg, .int .i64 jco, .int .i64 jcn, .int .i64 jce, .int .i64 jcf, .int .i64 jct, .int .i64 jcc, .slice ya L.length yk, .int .i64 jls, .int .i64 jlc, .int .i64 jlt, .int .i64 jr1, .int .i64 jr2, .int .i64 jr3, .int .i64 jr4, .int .i64 jr5]] X fun e w' => e = .returned (.bool true) ∧ Below X.heap.size X w') := fun X hX => cfgN_Q jcb jcg jco jcn jce jcf jct jcc jls jlc jlt jr1 jr2 jr3 jr4 jr5 L xa xk ya yk hL X (i.keep hX) (j.keep hX)
  have C1 : Hid (∀ X, Calls Tryz.prog 52 #[.agg #[.int .i64 sb, .int .i64 sg, .slice none 0 0, .slice none 0 0], .agg #[.int .i64 sb, .int .i64 sg, .slice none 0 0, .slice none 0 0]] X fun e w' => e = .returned (.bool true) ∧ Below X.heap.size X w') := fun X => eqStore_same X sb sg none none none none 0 0 0 0 [] [] [] [] (by simp) (by simp) (fun q hq => by simp at hq) (fun q hq => by simp at hq) rfl rfl (.inl rfl) (.inl rfl) (.inl rfl) (.inl rfl)
  have C2 := hidL (fun X => eqN_Origin X)
  have C3 := hidL (fun X => eqN_Flight X)
  obtain ⟨W, hW⟩ : ∃ W, W = (w.alloc (.cells #[.int .i64 jcb, .int .i64 jcg, .int .i64 jco, .int .i64 jcn, .int .i64 jce, .int .i64 jcf, .int .i64 jct, .int .i64 jcc, .slice xa L.length xk, .int .i64 jls, .int .i64 jlc, .int .i64 jlt, .int .i64 jr1, .int .i64 jr2, .int .i64 jr3, .int .i64 jr4, .int .i64 jr5, .int .i64 0, .int .i64 0, .int .i64 sb, .int .i64 sg, .slice none 0 0, .slice none 0 0, .slice none 0 0, .slice none 0 0] 48)).alloc (.cells #[.int .i64 jcb, .int .i64 jcg, .int .i64 jco, .int .i64 jcn, .int .i64 jce, .int .i64 jcf, .int .i64 jct, .int .i64 jcc, .slice ya L.length yk, .int .i64 jls, .int .i64 jlc, .int .i64 jlt, .int .i64 jr1, .int .i64 jr2, .int .i64 jr3, .int .i64 jr4, .int .i64 jr5, .int .i64 0, .int .i64 0, .int .i64 sb, .int .i64 sg, .slice none 0 0, .slice none 0 0, .slice none 0 0, .slice none 0 0] 48) := ⟨_, rfl⟩
  have HW : Hid (W = (w.alloc (.cells #[.int .i64 jcb, .int .i64 jcg, .int .i64 jco, .int .i64 jcn, .int .i64 jce, .int .i64 jcf, .int .i64 jct, .int .i64 jcc, .slice xa L.length xk, .int .i64 jls, .int .i64 jlc, .int .i64 jlt, .int .i64 jr1, .int .i64 jr2, .int .i64 jr3, .int .i64 jr4, .int .i64 jr5, .int .i64 0, .int .i64 0, .int .i64 sb, .int .i64 sg, .slice none 0 0, .slice none 0 0, .slice none 0 0, .slice none 0 0] 48)).alloc (.cells #[.int .i64 jcb, .int .i64 jcg, .int .i64 jco, .int .i64 jcn, .int .i64 jce, .int .i64 jcf, .int .i64 jct, .int .i64 jcc, .slice ya L.length yk, .int .i64 jls, .int .i64 jlc, .int .i64 jlt, .int .i64 jr1, .int .i64 jr2, .int .i64 jr3, .int .i64 jr4, .int .i64 jr5, .int .i64 0, .int .i64 0, .int .i64 sb, .int .i64 sg, .slice none 0 0, .slice none 0 0, .slice none 0 0, .slice none 0 0] 48)) := hW
  have KW := hidL (show Below w.heap.size w W by rw [hW]; exact ((Below.refl _ _).alloc (Nat.le_refl _) _).alloc (by simp) _)
  have A0 := hidL (show At w.heap.size (w.heap.size + 1) (Bx w.heap.size [.int .i64 jcb, .int .i64 jcg, .int .i64 jco, .int .i64 jcn, .int .i64 jce, .int .i64 jcf, .int .i64 jct, .int .i64 jcc, .slice xa L.length xk, .int .i64 jls, .int .i64 jlc, .int .i64 jlt, .int .i64 jr1, .int .i64 jr2, .int .i64 jr3, .int .i64 jr4, .int .i64 jr5, .int .i64 0, .int .i64 0, .int .i64 sb, .int .i64 sg, .slice none 0 0, .slice none 0 0, .slice none 0 0, .slice none 0 0]) W by rw [hW]; exact (Bx.new _ [.int .i64 jcb, .int .i64 jcg, .int .i64 jco, .int .i64 jcn, .int .i64 jce, .int .i64 jcf, .int .i64 jct, .int .i64 jcc, .slice xa L.length xk, .int .i64 jls, .int .i64 jlc, .int .i64 jlt, .int .i64 jr1, .int .i64 jr2, .int .i64 jr3, .int .i64 jr4, .int .i64 jr5, .int .i64 0, .int .i64 0, .int .i64 sb, .int .i64 sg, .slice none 0 0, .slice none 0 0, .slice none 0 0, .slice none 0 0] _).al _)
  have A1 := hidL (show At (w.heap.size + 1) (w.heap.size + 1 + 1) (Bx (w.heap.size + 1) [.int .i64 jcb, .int .i64 jcg, .int .i64 jco, .int .i64 jcn, .int .i64 jce, .int .i64 jcf, .int .i64 jct, .int .i64 jcc, .slice ya L.length yk, .int .i64 jls, .int .i64 jlc, .int .i64 jlt, .int .i64 jr1, .int .i64 jr2, .int .i64 jr3, .int .i64 jr4, .int .i64 jr5, .int .i64 0, .int .i64 0, .int .i64 sb, .int .i64 sg, .slice none 0 0, .slice none 0 0, .slice none 0 0, .slice none 0 0]) W by rw [hW]; exact Bx.newAt (by simp) [.int .i64 jcb, .int .i64 jcg, .int .i64 jco, .int .i64 jcn, .int .i64 jce, .int .i64 jcf, .int .i64 jct, .int .i64 jcc, .slice ya L.length yk, .int .i64 jls, .int .i64 jlc, .int .i64 jlt, .int .i64 jr1, .int .i64 jr2, .int .i64 jr3, .int .i64 jr4, .int .i64 jr5, .int .i64 0, .int .i64 0, .int .i64 sb, .int .i64 sg, .slice none 0 0, .slice none 0 0, .slice none 0 0, .slice none 0 0] _)
  clear hW i j hL
  generalize L.length = n at *
  go_enter Tryz.func12, Tryz.ntmps12
  go_upto_region 1 with fail
  rw [← HW.out]
  clear HW
  have L1 := hidL A0.out.val.1
  have L2 := hidL A1.out.val.1
  go_wp2_with (first | ((with_reducible refine cfgI_loadAt (b := w.heap.size) (off := 0) (vs := [.int .i64 jcb, .int .i64 jcg, .int .i64 jco, .int .i64 jcn, .int .i64 jce, .int .i64 jcf, .int .i64 jct, .int .i64 jcc, .slice xa n xk, .int .i64 jls, .int .i64 jlc, .int .i64 jlt, .int .i64 jr1, .int .i64 jr2, .int .i64 jr3, .int .i64 jr4, .int .i64 jr5, .int .i64 0, .int .i64 0, .int .i64 sb, .int .i64 sg, .slice none 0 0, .slice none 0 0, .slice none 0 0, .slice none 0 0]) (us := [.int .i64 jcb, .int .i64 jcg, .int .i64 jco, .int .i64 jcn, .int .i64 jce, .int .i64 jcf, .int .i64 jct, .int .i64 jcc, .slice xa n xk, .int .i64 jls, .int .i64 jlc, .int .i64 jlt, .int .i64 jr1, .int .i64 jr2, .int .i64 jr3, .int .i64 jr4, .int .i64 jr5]) ?_ ?_ ?_ L1.out ?_); exact rfl; exact rfl; exact rfl) | ((with_reducible refine cfgI_loadAt (b := w.heap.size + 1) (off := 0) (vs := [.int .i64 jcb, .int .i64 jcg, .int .i64 jco, .int .i64 jcn, .int .i64 jce, .int .i64 jcf, .int .i64 jct, .int .i64 jcc, .slice ya n yk, .int .i64 jls, .int .i64 jlc, .int .i64 jlt, .int .i64 jr1, .int .i64 jr2, .int .i64 jr3, .int .i64 jr4, .int .i64 jr5, .int .i64 0, .int .i64 0, .int .i64 sb, .int .i64 sg, .slice none 0 0, .slice none 0 0, .slice none 0 0, .slice none 0 0]) (us := [.int .i64 jcb, .int .i64 jcg, .int .i64 jco, .int .i64 jcn, .int .i64 jce, .int .i64 jcf, .int .i64 jct, .int .i64 jcc, .slice ya n yk, .int .i64 jls, .int .i64 jlc, .int .i64 jlt, .int .i64 jr1, .int .i64 jr2, .int .i64 jr3, .int .i64 jr4, .int .i64 jr5]) ?_ ?_ ?_ L2.out ?_); exact rfl; exact rfl; exact rfl))
  clear L1 L2
  refine (C0.out W KW.out).mono ?_
  rintro e w1 ⟨rfl, hb⟩
  have K1 := hidL (KW.out.trans (hb.mono KW.out.size))
  replace A0 := hidL (A0.out.keep hb)
  replace A1 := hidL (A1.out.keep hb)
  have p17 := A0.out.val.1 17 _ rfl
  have q17 := A1.out.val.1 17 _ rfl
  have p18 := A0.out.val.1 18 _ rfl
  have q18 := A1.out.val.1 18 _ rfl
  have p19 := A0.out.val.1 19 _ rfl
  have q19 := A1.out.val.1 19 _ rfl
  have p20 := A0.out.val.1 20 _ rfl
  have q20 := A1.out.val.1 20 _ rfl
  have p21 := A0.out.val.1 21 _ rfl
  have q21 := A1.out.val.1 21 _ rfl
  have p22 := A0.out.val.1 22 _ rfl
  have q22 := A1.out.val.1 22 _ rfl
  clear hb KW
  go_wp2_with fail
  clear p17 q17 p18 q18 p19 q19 p20 q20 p21 q21 p22 q22
  refine (C1.out w1).mono ?_
  rintro e w2 ⟨rfl, hb⟩
  have K2 := hidL (K1.out.trans (hb.mono K1.out.size))
  replace A0 := hidL (A0.out.keep hb)
  replace A1 := hidL (A1.out.keep hb)
  have p23 := A0.out.val.1 23 _ rfl
  have q23 := A1.out.val.1 23 _ rfl
  clear hb K1
  go_wp2_with fail
  clear p23 q23
  refine (C2.out w2).mono ?_
  rintro e w3 ⟨rfl, hb⟩
  have K3 := hidL (K2.out.trans (hb.mono K2.out.size))
  replace A0 := hidL (A0.out.keep hb)
  replace A1 := hidL (A1.out.keep hb)
  have p24 := A0.out.val.1 24 _ rfl
  have q24 := A1.out.val.1 24 _ rfl
  clear hb K2
  go_wp2_with fail
  clear p24 q24
  refine (C3.out w3).mono ?_
  rintro e w4 ⟨rfl, hb⟩
  have K4 := hidL (K3.out.trans (hb.mono K3.out.size))
  clear hb K3
  go_wp2_with fail
  go_ret
  exact ⟨rfl, K4.out⟩
set_option maxRecDepth 100000 in
set_option maxHeartbeats 8000000 in
theorem shR_Q (rc : Int) (jcb jcg jco jcn jce jcf jct jcc jls jlc jlt jr1 jr2 jr3 jr4 jr5 : Int) (sb sg : Int) (L : List ByteArray) (xa : Option Addr) (xk : Nat) (ya : Option Addr) (yk : Nat) (hL : L.length ≤ 1048576) (w : World) (i : TIn w xa L) (j : TIn w ya L) :
    Calls Tryz.prog 17 #[.agg #[.int .i64 rc, .int .i64 jcb, .int .i64 jcg, .int .i64 jco, .int .i64 jcn, .int .i64 jce, .int .i64 jcf, .int .i64 jct, .int .i64 jcc, .slice xa L.length xk, .int .i64 jls, .int .i64 jlc, .int .i64 jlt, .int .i64 jr1, .int .i64 jr2, .int .i64 jr3, .int .i64 jr4, .int .i64 jr5, .int .i64 0, .int .i64 0, .int .i64 sb, .int .i64 sg, .slice none 0 0, .slice none 0 0, .slice none 0 0, .slice none 0 0], .agg #[.int .i64 rc, .int .i64 jcb, .int .i64 jcg, .int .i64 jco, .int .i64 jcn, .int .i64 jce, .int .i64 jcf, .int .i64 jct, .int .i64 jcc, .slice ya L.length yk, .int .i64 jls, .int .i64 jlc, .int .i64 jlt, .int .i64 jr1, .int .i64 jr2, .int .i64 jr3, .int .i64 jr4, .int .i64 jr5, .int .i64 0, .int .i64 0, .int .i64 sb, .int .i64 sg, .slice none 0 0, .slice none 0 0, .slice none 0 0, .slice none 0 0]] w fun e w' => e = .returned (.bool true) ∧ Below w.heap.size w w' := by
  have C0 : Hid (∀ X, Below w.heap.size w X → Calls Tryz.prog 12 #[.agg #[.int .i64 jcb, .int .i64 jcg, .int .i64 jco, .int .i64 jcn, .int .i64 jce, .int .i64 jcf, .int .i64 jct, .int .i64 jcc, .slice xa L.length xk, .int .i64 jls, .int .i64 jlc, .int .i64 jlt, .int .i64 jr1, .int .i64 jr2, .int .i64 jr3, .int .i64 jr4, .int .i64 jr5, .int .i64 0, .int .i64 0, .int .i64 sb, .int .i64 sg, .slice none 0 0, .slice none 0 0, .slice none 0 0, .slice none 0 0], .agg #[.int .i64 jcb, .int .i64 jcg, .int .i64 jco, .int .i64 jcn, .int .i64 jce, .int .i64 jcf, .int .i64 jct, .int .i64 jcc, .slice ya L.length yk, .int .i64 jls, .int .i64 jlc, .int .i64 jlt, .int .i64 jr1, .int .i64 jr2, .int .i64 jr3, .int .i64 jr4, .int .i64 jr5, .int .i64 0, .int .i64 0, .int .i64 sb, .int .i64 sg, .slice none 0 0, .slice none 0 0, .slice none 0 0, .slice none 0 0]] X fun e w' => e = .returned (.bool true) ∧ Below X.heap.size X w') := fun X hX => shN_Q jcb jcg jco jcn jce jcf jct jcc jls jlc jlt jr1 jr2 jr3 jr4 jr5 sb sg L xa xk ya yk hL X (i.keep hX) (j.keep hX)
  obtain ⟨W, hW⟩ : ∃ W, W = (w.alloc (.cells #[.int .i64 rc, .int .i64 jcb, .int .i64 jcg, .int .i64 jco, .int .i64 jcn, .int .i64 jce, .int .i64 jcf, .int .i64 jct, .int .i64 jcc, .slice xa L.length xk, .int .i64 jls, .int .i64 jlc, .int .i64 jlt, .int .i64 jr1, .int .i64 jr2, .int .i64 jr3, .int .i64 jr4, .int .i64 jr5, .int .i64 0, .int .i64 0, .int .i64 sb, .int .i64 sg, .slice none 0 0, .slice none 0 0, .slice none 0 0, .slice none 0 0] 54)).alloc (.cells #[.int .i64 rc, .int .i64 jcb, .int .i64 jcg, .int .i64 jco, .int .i64 jcn, .int .i64 jce, .int .i64 jcf, .int .i64 jct, .int .i64 jcc, .slice ya L.length yk, .int .i64 jls, .int .i64 jlc, .int .i64 jlt, .int .i64 jr1, .int .i64 jr2, .int .i64 jr3, .int .i64 jr4, .int .i64 jr5, .int .i64 0, .int .i64 0, .int .i64 sb, .int .i64 sg, .slice none 0 0, .slice none 0 0, .slice none 0 0, .slice none 0 0] 54) := ⟨_, rfl⟩
  have HW : Hid (W = (w.alloc (.cells #[.int .i64 rc, .int .i64 jcb, .int .i64 jcg, .int .i64 jco, .int .i64 jcn, .int .i64 jce, .int .i64 jcf, .int .i64 jct, .int .i64 jcc, .slice xa L.length xk, .int .i64 jls, .int .i64 jlc, .int .i64 jlt, .int .i64 jr1, .int .i64 jr2, .int .i64 jr3, .int .i64 jr4, .int .i64 jr5, .int .i64 0, .int .i64 0, .int .i64 sb, .int .i64 sg, .slice none 0 0, .slice none 0 0, .slice none 0 0, .slice none 0 0] 54)).alloc (.cells #[.int .i64 rc, .int .i64 jcb, .int .i64 jcg, .int .i64 jco, .int .i64 jcn, .int .i64 jce, .int .i64 jcf, .int .i64 jct, .int .i64 jcc, .slice ya L.length yk, .int .i64 jls, .int .i64 jlc, .int .i64 jlt, .int .i64 jr1, .int .i64 jr2, .int .i64 jr3, .int .i64 jr4, .int .i64 jr5, .int .i64 0, .int .i64 0, .int .i64 sb, .int .i64 sg, .slice none 0 0, .slice none 0 0, .slice none 0 0, .slice none 0 0] 54)) := hW
  have KW := hidL (show Below w.heap.size w W by rw [hW]; exact ((Below.refl _ _).alloc (Nat.le_refl _) _).alloc (by simp) _)
  have A0 := hidL (show At w.heap.size (w.heap.size + 1) (Bx w.heap.size [.int .i64 rc, .int .i64 jcb, .int .i64 jcg, .int .i64 jco, .int .i64 jcn, .int .i64 jce, .int .i64 jcf, .int .i64 jct, .int .i64 jcc, .slice xa L.length xk, .int .i64 jls, .int .i64 jlc, .int .i64 jlt, .int .i64 jr1, .int .i64 jr2, .int .i64 jr3, .int .i64 jr4, .int .i64 jr5, .int .i64 0, .int .i64 0, .int .i64 sb, .int .i64 sg, .slice none 0 0, .slice none 0 0, .slice none 0 0, .slice none 0 0]) W by rw [hW]; exact (Bx.new _ [.int .i64 rc, .int .i64 jcb, .int .i64 jcg, .int .i64 jco, .int .i64 jcn, .int .i64 jce, .int .i64 jcf, .int .i64 jct, .int .i64 jcc, .slice xa L.length xk, .int .i64 jls, .int .i64 jlc, .int .i64 jlt, .int .i64 jr1, .int .i64 jr2, .int .i64 jr3, .int .i64 jr4, .int .i64 jr5, .int .i64 0, .int .i64 0, .int .i64 sb, .int .i64 sg, .slice none 0 0, .slice none 0 0, .slice none 0 0, .slice none 0 0] _).al _)
  have A1 := hidL (show At (w.heap.size + 1) (w.heap.size + 1 + 1) (Bx (w.heap.size + 1) [.int .i64 rc, .int .i64 jcb, .int .i64 jcg, .int .i64 jco, .int .i64 jcn, .int .i64 jce, .int .i64 jcf, .int .i64 jct, .int .i64 jcc, .slice ya L.length yk, .int .i64 jls, .int .i64 jlc, .int .i64 jlt, .int .i64 jr1, .int .i64 jr2, .int .i64 jr3, .int .i64 jr4, .int .i64 jr5, .int .i64 0, .int .i64 0, .int .i64 sb, .int .i64 sg, .slice none 0 0, .slice none 0 0, .slice none 0 0, .slice none 0 0]) W by rw [hW]; exact Bx.newAt (by simp) [.int .i64 rc, .int .i64 jcb, .int .i64 jcg, .int .i64 jco, .int .i64 jcn, .int .i64 jce, .int .i64 jcf, .int .i64 jct, .int .i64 jcc, .slice ya L.length yk, .int .i64 jls, .int .i64 jlc, .int .i64 jlt, .int .i64 jr1, .int .i64 jr2, .int .i64 jr3, .int .i64 jr4, .int .i64 jr5, .int .i64 0, .int .i64 0, .int .i64 sb, .int .i64 sg, .slice none 0 0, .slice none 0 0, .slice none 0 0, .slice none 0 0] _)
  clear hW i j hL
  generalize L.length = n at *
  go_enter Tryz.func17, Tryz.ntmps17
  go_upto_region 1 with fail
  rw [← HW.out]
  clear HW
  have L1 := hidL A0.out.val.1
  have L2 := hidL A1.out.val.1
  have p0 := A0.out.val.1 0 _ rfl
  have q0 := A1.out.val.1 0 _ rfl
  go_wp2_with (first | ((with_reducible refine shI_loadAt (b := w.heap.size) (off := 1) (vs := [.int .i64 rc, .int .i64 jcb, .int .i64 jcg, .int .i64 jco, .int .i64 jcn, .int .i64 jce, .int .i64 jcf, .int .i64 jct, .int .i64 jcc, .slice xa n xk, .int .i64 jls, .int .i64 jlc, .int .i64 jlt, .int .i64 jr1, .int .i64 jr2, .int .i64 jr3, .int .i64 jr4, .int .i64 jr5, .int .i64 0, .int .i64 0, .int .i64 sb, .int .i64 sg, .slice none 0 0, .slice none 0 0, .slice none 0 0, .slice none 0 0]) (us := [.int .i64 jcb, .int .i64 jcg, .int .i64 jco, .int .i64 jcn, .int .i64 jce, .int .i64 jcf, .int .i64 jct, .int .i64 jcc, .slice xa n xk, .int .i64 jls, .int .i64 jlc, .int .i64 jlt, .int .i64 jr1, .int .i64 jr2, .int .i64 jr3, .int .i64 jr4, .int .i64 jr5, .int .i64 0, .int .i64 0, .int .i64 sb, .int .i64 sg, .slice none 0 0, .slice none 0 0, .slice none 0 0, .slice none 0 0]) ?_ ?_ ?_ L1.out ?_); exact rfl; exact rfl; exact rfl) | ((with_reducible refine shI_loadAt (b := w.heap.size + 1) (off := 1) (vs := [.int .i64 rc, .int .i64 jcb, .int .i64 jcg, .int .i64 jco, .int .i64 jcn, .int .i64 jce, .int .i64 jcf, .int .i64 jct, .int .i64 jcc, .slice ya n yk, .int .i64 jls, .int .i64 jlc, .int .i64 jlt, .int .i64 jr1, .int .i64 jr2, .int .i64 jr3, .int .i64 jr4, .int .i64 jr5, .int .i64 0, .int .i64 0, .int .i64 sb, .int .i64 sg, .slice none 0 0, .slice none 0 0, .slice none 0 0, .slice none 0 0]) (us := [.int .i64 jcb, .int .i64 jcg, .int .i64 jco, .int .i64 jcn, .int .i64 jce, .int .i64 jcf, .int .i64 jct, .int .i64 jcc, .slice ya n yk, .int .i64 jls, .int .i64 jlc, .int .i64 jlt, .int .i64 jr1, .int .i64 jr2, .int .i64 jr3, .int .i64 jr4, .int .i64 jr5, .int .i64 0, .int .i64 0, .int .i64 sb, .int .i64 sg, .slice none 0 0, .slice none 0 0, .slice none 0 0, .slice none 0 0]) ?_ ?_ ?_ L2.out ?_); exact rfl; exact rfl; exact rfl))
  clear L1 L2 p0 q0
  refine (C0.out W KW.out).mono ?_
  rintro e w1 ⟨rfl, hb⟩
  have K1 := hidL (KW.out.trans (hb.mono KW.out.size))
  clear hb KW A0 A1 C0
  go_wp2_with fail
  go_ret
  exact ⟨rfl, K1.out⟩
/-- The names of a new shield. -/
def NL (L : List ByteArray) (ra : Option Addr) (rn rk : Nat) (lo hi : Nat) (X : World) : Prop := rn = L.length ∧ TL (.slice ra rn rk) L lo hi X
theorem NL.dep (L : List ByteArray) (ra : Option Addr) (rn rk lo hi : Nat) : Dep lo hi (NL L ra rn rk lo hi) := fun X X' h1 h2 hc k => ⟨k.1, TL.dep _ _ _ _ X X' h1 h2 hc k.2⟩
/-- The same, marked. -/
def NLm (L : List ByteArray) (ra : Option Addr) (rn rk : Nat) (lo hi : Nat) (X : World) : Prop := rn = L.length ∧ TL (.slice ra rn rk) (mkTL 1 rn) lo hi X
theorem NLm.dep (L : List ByteArray) (ra : Option Addr) (rn rk lo hi : Nat) : Dep lo hi (NLm L ra rn rk lo hi) := fun X X' h1 h2 hc k => ⟨k.1, TL.dep _ _ _ _ X X' h1 h2 hc k.2⟩
theorem shHav {v : Value} {w V w' : World} (hV : Below w.heap.size w V) (h : HAV v V w') : HAV v w w' :=
  ⟨Nat.le_trans hV.size h.size, fun b o hb hn => (h.cell b o (Nat.lt_of_lt_of_le hb hV.size) hn).trans (hV.cell (p := ⟨b, o, none⟩) hb), fun b o hb hn => (h.frozen b o (Nat.lt_of_lt_of_le hb hV.size) hn).trans (hV.frozen (p := ⟨b, o, none⟩) hb)⟩
set_option maxRecDepth 100000 in
set_option maxHeartbeats 4000000 in
theorem cfgM (w : World) (jcb jcg jco jcn jce jcf jct jcc jls jlc jlt jr1 jr2 jr3 jr4 jr5 : Int) (L : List ByteArray) (ra : Option Addr) (rn rk : Nat) (lo hi base : Nat) (hn : rn = L.length) (hL : L.length ≤ 1048576) (c : At lo hi (TL (.slice ra rn rk) L) w) (hb : base ≤ lo) (hbX : base ≤ w.heap.size) :
    Calls Tryz.prog 19 #[.agg #[.int .i64 jcb, .int .i64 jcg, .int .i64 jco, .int .i64 jcn, .int .i64 jce, .int .i64 jcf, .int .i64 jct, .int .i64 jcc, .slice ra rn rk, .int .i64 jls, .int .i64 jlc, .int .i64 jlt, .int .i64 jr1, .int .i64 jr2, .int .i64 jr3, .int .i64 jr4, .int .i64 jr5], .int .i64 1] w fun e w' => e = .returned (.int .i64 ((1 + rn : Nat) : Int)) ∧ At lo hi (TL (.slice ra rn rk) (mkTL 1 rn)) w' ∧ Wi lo hi w w' ∧ Below base w w' := by
  obtain ⟨V, hV⟩ : ∃ V, V = w.alloc (.cells #[.int .i64 jcb, .int .i64 jcg, .int .i64 jco, .int .i64 jcn, .int .i64 jce, .int .i64 jcf, .int .i64 jct, .int .i64 jcc, .slice ra rn rk, .int .i64 jls, .int .i64 jlc, .int .i64 jlt, .int .i64 jr1, .int .i64 jr2, .int .i64 jr3, .int .i64 jr4, .int .i64 jr5] 41) := ⟨_, rfl⟩
  have HV : Hid (V = w.alloc (.cells #[.int .i64 jcb, .int .i64 jcg, .int .i64 jco, .int .i64 jcn, .int .i64 jce, .int .i64 jcf, .int .i64 jct, .int .i64 jcc, .slice ra rn rk, .int .i64 jls, .int .i64 jlc, .int .i64 jlt, .int .i64 jr1, .int .i64 jr2, .int .i64 jr3, .int .i64 jr4, .int .i64 jr5] 41)) := hV
  have bV : Below w.heap.size w V := by rw [hV]; exact (Below.refl _ _).alloc (Nat.le_refl _) _
  have KV := hidL bV
  have F1 := hidL (show At w.heap.size (w.heap.size + 1) (Bx w.heap.size [.int .i64 jcb, .int .i64 jcg, .int .i64 jco, .int .i64 jcn, .int .i64 jce, .int .i64 jcf, .int .i64 jct, .int .i64 jcc, .slice ra rn rk, .int .i64 jls, .int .i64 jlc, .int .i64 jlt, .int .i64 jr1, .int .i64 jr2, .int .i64 jr3, .int .i64 jr4, .int .i64 jr5]) V by rw [hV]; exact Bx.new _ [.int .i64 jcb, .int .i64 jcg, .int .i64 jco, .int .i64 jcn, .int .i64 jce, .int .i64 jcf, .int .i64 jct, .int .i64 jcc, .slice ra rn rk, .int .i64 jls, .int .i64 jlc, .int .i64 jlt, .int .i64 jr1, .int .i64 jr2, .int .i64 jr3, .int .i64 jr4, .int .i64 jr5] _)
  have C : Hid (Calls Tryz.prog 65 #[.slice ra rn rk, .int .i64 1] V fun e w' => e = .returned (.int .i64 ((1 + rn : Nat) : Int)) ∧ At lo hi (TL (.slice ra rn rk) (mkTL 1 rn)) w' ∧ Wi lo hi w w' ∧ Below base w w') := by
    have := markStringS_lv V (.slice ra rn rk) L hL (c.keep bV).val.1 base (fun b hq => Nat.le_trans hb (c.val.2 b hq).1) (Nat.le_trans hbX bV.size)
    rw [← hn] at this
    exact this.mono fun e w1 ⟨he, h1, h2, h3⟩ => ⟨he, ⟨Nat.le_trans c.le (Nat.le_trans bV.size h2.size), TL.dep _ _ _ _, h1, c.val.2⟩, HAV.wi (shHav bV h2) c.val.2, (bV.mono hbX).trans h3⟩
  have p8 := F1.out.val.1 8 _ rfl
  clear c hb hbX hL bV hV KV hn F1
  generalize ((1 + rn : Nat) : Int) = q at *
  go_enter Tryz.func19, Tryz.ntmps19
  go_upto_region 1 with fail
  rw [← HV.out]
  clear HV
  go_wp2_with fail
  refine C.out.mono ?_
  rintro e w1 ⟨rfl, hk⟩
  have K := hidL hk
  clear hk C p8
  go_wp2_with fail
  go_ret
  exact ⟨rfl, K.out⟩
set_option maxRecDepth 100000 in
set_option maxHeartbeats 4000000 in
theorem cfgH (w : World) (jcb jcg jco jcn jce jcf jct jcc jls jlc jlt jr1 jr2 jr3 jr4 jr5 : Int) (ra : Option Addr) (rn rk : Nat) (lo hi : Nat) (hL : rn ≤ 1048576) (c : At lo hi (TL (.slice ra rn rk) (mkTL 1 rn)) w) :
    Calls Tryz.prog 129 #[.agg #[.int .i64 jcb, .int .i64 jcg, .int .i64 jco, .int .i64 jcn, .int .i64 jce, .int .i64 jcf, .int .i64 jct, .int .i64 jcc, .slice ra rn rk, .int .i64 jls, .int .i64 jlc, .int .i64 jlt, .int .i64 jr1, .int .i64 jr2, .int .i64 jr3, .int .i64 jr4, .int .i64 jr5], .int .i64 1] w fun e w' => e = .returned (.int .i64 ((1 + rn : Nat) : Int)) ∧ Below w.heap.size w w' := by
  obtain ⟨V, hV⟩ : ∃ V, V = w.alloc (.cells #[.int .i64 jcb, .int .i64 jcg, .int .i64 jco, .int .i64 jcn, .int .i64 jce, .int .i64 jcf, .int .i64 jct, .int .i64 jcc, .slice ra rn rk, .int .i64 jls, .int .i64 jlc, .int .i64 jlt, .int .i64 jr1, .int .i64 jr2, .int .i64 jr3, .int .i64 jr4, .int .i64 jr5] 41) := ⟨_, rfl⟩
  have HV : Hid (V = w.alloc (.cells #[.int .i64 jcb, .int .i64 jcg, .int .i64 jco, .int .i64 jcn, .int .i64 jce, .int .i64 jcf, .int .i64 jct, .int .i64 jcc, .slice ra rn rk, .int .i64 jls, .int .i64 jlc, .int .i64 jlt, .int .i64 jr1, .int .i64 jr2, .int .i64 jr3, .int .i64 jr4, .int .i64 jr5] 41)) := hV
  have bV : Below w.heap.size w V := by rw [hV]; exact (Below.refl _ _).alloc (Nat.le_refl _) _
  have KV := hidL bV
  have F1 := hidL (show At w.heap.size (w.heap.size + 1) (Bx w.heap.size [.int .i64 jcb, .int .i64 jcg, .int .i64 jco, .int .i64 jcn, .int .i64 jce, .int .i64 jcf, .int .i64 jct, .int .i64 jcc, .slice ra rn rk, .int .i64 jls, .int .i64 jlc, .int .i64 jlt, .int .i64 jr1, .int .i64 jr2, .int .i64 jr3, .int .i64 jr4, .int .i64 jr5]) V by rw [hV]; exact Bx.new _ [.int .i64 jcb, .int .i64 jcg, .int .i64 jco, .int .i64 jcn, .int .i64 jce, .int .i64 jcf, .int .i64 jct, .int .i64 jcc, .slice ra rn rk, .int .i64 jls, .int .i64 jlc, .int .i64 jlt, .int .i64 jr1, .int .i64 jr2, .int .i64 jr3, .int .i64 jr4, .int .i64 jr5] _)
  have C : Hid (Calls Tryz.prog 193 #[.slice ra rn rk, .int .i64 1] V fun e w' => e = .returned (.int .i64 ((1 + rn : Nat) : Int)) ∧ Below V.heap.size V w') := heldStringS_lv V (.slice ra rn rk) rn hL (c.keep bV).val.1
  have p8 := F1.out.val.1 8 _ rfl
  have n0 : ¬ ((1 + rn : Nat) : Int) < 0 := by omega
  clear c hL bV hV F1
  generalize ((1 + rn : Nat) : Int) = q at *
  go_enter Tryz.func129, Tryz.ntmps129
  go_upto_region 1 with fail
  rw [← HV.out]
  clear HV
  go_wp2_with fail
  refine C.out.mono ?_
  rintro e w1 ⟨rfl, hb⟩
  have K := hidL (KV.out.trans (hb.mono KV.out.size))
  clear hb C p8 KV
  go_wp2_with fail
  go_ret
  exact ⟨rfl, K.out⟩
set_option maxRecDepth 100000 in
set_option maxHeartbeats 8000000 in
theorem shN_M (w : World) (jcb jcg jco jcn jce jcf jct jcc jls jlc jlt jr1 jr2 jr3 jr4 jr5 : Int) (sb sg : Int) (L : List ByteArray) (ra : Option Addr) (rn rk : Nat) (lo hi base : Nat) (hn : rn = L.length) (hL : L.length ≤ 1048576) (c : At lo hi (TL (.slice ra rn rk) L) w) (hb : base ≤ lo) (hbX : base ≤ w.heap.size) :
    Calls Tryz.prog 25 #[.agg #[.int .i64 jcb, .int .i64 jcg, .int .i64 jco, .int .i64 jcn, .int .i64 jce, .int .i64 jcf, .int .i64 jct, .int .i64 jcc, .slice ra rn rk, .int .i64 jls, .int .i64 jlc, .int .i64 jlt, .int .i64 jr1, .int .i64 jr2, .int .i64 jr3, .int .i64 jr4, .int .i64 jr5, .int .i64 0, .int .i64 0, .int .i64 sb, .int .i64 sg, .slice none 0 0, .slice none 0 0, .slice none 0 0, .slice none 0 0], .int .i64 1] w fun e w' => e = .returned (.int .i64 ((1 + rn : Nat) : Int)) ∧ At lo hi (TL (.slice ra rn rk) (mkTL 1 rn)) w' ∧ Wi lo hi w w' ∧ Below base w w' := by
  obtain ⟨V, hV⟩ : ∃ V, V = w.alloc (.cells #[.int .i64 jcb, .int .i64 jcg, .int .i64 jco, .int .i64 jcn, .int .i64 jce, .int .i64 jcf, .int .i64 jct, .int .i64 jcc, .slice ra rn rk, .int .i64 jls, .int .i64 jlc, .int .i64 jlt, .int .i64 jr1, .int .i64 jr2, .int .i64 jr3, .int .i64 jr4, .int .i64 jr5, .int .i64 0, .int .i64 0, .int .i64 sb, .int .i64 sg, .slice none 0 0, .slice none 0 0, .slice none 0 0, .slice none 0 0] 48) := ⟨_, rfl⟩
  have HV : Hid (V = w.alloc (.cells #[.int .i64 jcb, .int .i64 jcg, .int .i64 jco, .int .i64 jcn, .int .i64 jce, .int .i64 jcf, .int .i64 jct, .int .i64 jcc, .slice ra rn rk, .int .i64 jls, .int .i64 jlc, .int .i64 jlt, .int .i64 jr1, .int .i64 jr2, .int .i64 jr3, .int .i64 jr4, .int .i64 jr5, .int .i64 0, .int .i64 0, .int .i64 sb, .int .i64 sg, .slice none 0 0, .slice none 0 0, .slice none 0 0, .slice none 0 0] 48)) := hV
  have bV : Below w.heap.size w V := by rw [hV]; exact (Below.refl _ _).alloc (Nat.le_refl _) _
  have KV := hidL bV
  have F1 := hidL (show At w.heap.size (w.heap.size + 1) (Bx w.heap.size [.int .i64 jcb, .int .i64 jcg, .int .i64 jco, .int .i64 jcn, .int .i64 jce, .int .i64 jcf, .int .i64 jct, .int .i64 jcc, .slice ra rn rk, .int .i64 jls, .int .i64 jlc, .int .i64 jlt, .int .i64 jr1, .int .i64 jr2, .int .i64 jr3, .int .i64 jr4, .int .i64 jr5, .int .i64 0, .int .i64 0, .int .i64 sb, .int .i64 sg, .slice none 0 0, .slice none 0 0, .slice none 0 0, .slice none 0 0]) V by rw [hV]; exact Bx.new _ [.int .i64 jcb, .int .i64 jcg, .int .i64 jco, .int .i64 jcn, .int .i64 jce, .int .i64 jcf, .int .i64 jct, .int .i64 jcc, .slice ra rn rk, .int .i64 jls, .int .i64 jlc, .int .i64 jlt, .int .i64 jr1, .int .i64 jr2, .int .i64 jr3, .int .i64 jr4, .int .i64 jr5, .int .i64 0, .int .i64 0, .int .i64 sb, .int .i64 sg, .slice none 0 0, .slice none 0 0, .slice none 0 0, .slice none 0 0] _)
  have HH := hidL c.le
  have C0 : Hid (Calls Tryz.prog 19 #[.agg #[.int .i64 jcb, .int .i64 jcg, .int .i64 jco, .int .i64 jcn, .int .i64 jce, .int .i64 jcf, .int .i64 jct, .int .i64 jcc, .slice ra rn rk, .int .i64 jls, .int .i64 jlc, .int .i64 jlt, .int .i64 jr1, .int .i64 jr2, .int .i64 jr3, .int .i64 jr4, .int .i64 jr5], .int .i64 1] V fun e w' => e = .returned (.int .i64 ((1 + rn : Nat) : Int)) ∧ At lo hi (TL (.slice ra rn rk) (mkTL 1 rn)) w' ∧ Wi lo hi V w' ∧ Below base V w') := cfgM V jcb jcg jco jcn jce jcf jct jcc jls jlc jlt jr1 jr2 jr3 jr4 jr5 L ra rn rk lo hi base hn hL (c.keep bV) hb (Nat.le_trans hbX bV.size)
  have BB := hidL (bV.mono hbX)
  obtain ⟨q, hq⟩ : ∃ q, ((1 + rn : Nat) : Int) = q := ⟨_, rfl⟩
  rw [hq] at C0
  rw [hq]
  have C1 : Hid (∀ X, Calls Tryz.prog 71 #[.agg #[.int .i64 sb, .int .i64 sg, .slice none 0 0, .slice none 0 0], .int .i64 q] X fun e w' => e = .returned (.int .i64 q) ∧ Below X.heap.size X w') := fun X => markN_Store X sb sg q
  have C2 := hidL (fun X => markN_Origin X q)
  have C3 := hidL (fun X => markN_Flight X q)
  have HBX := hidL hbX
  clear c hb hbX hL bV hV hn hq
  go_enter Tryz.func25, Tryz.ntmps25
  go_upto_region 1 with fail
  rw [← HV.out]
  clear HV
  have L1 := hidL F1.out.val.1
  go_wp2_with (first | ((with_reducible refine cfgI_loadAt (b := w.heap.size) (off := 0) (vs := [.int .i64 jcb, .int .i64 jcg, .int .i64 jco, .int .i64 jcn, .int .i64 jce, .int .i64 jcf, .int .i64 jct, .int .i64 jcc, .slice ra rn rk, .int .i64 jls, .int .i64 jlc, .int .i64 jlt, .int .i64 jr1, .int .i64 jr2, .int .i64 jr3, .int .i64 jr4, .int .i64 jr5, .int .i64 0, .int .i64 0, .int .i64 sb, .int .i64 sg, .slice none 0 0, .slice none 0 0, .slice none 0 0, .slice none 0 0]) (us := [.int .i64 jcb, .int .i64 jcg, .int .i64 jco, .int .i64 jcn, .int .i64 jce, .int .i64 jcf, .int .i64 jct, .int .i64 jcc, .slice ra rn rk, .int .i64 jls, .int .i64 jlc, .int .i64 jlt, .int .i64 jr1, .int .i64 jr2, .int .i64 jr3, .int .i64 jr4, .int .i64 jr5]) ?_ ?_ ?_ L1.out ?_); exact rfl; exact rfl; exact rfl))
  clear L1
  refine C0.out.mono ?_
  rintro e w1 ⟨rfl, m1, g1, hb⟩
  have K1 := hidL (BB.out.trans hb)
  have M1 := hidL m1
  have W1 := hidL ((Wi.of (lo := lo) (hi := hi) KV.out).trans g1)
  replace F1 := hidL (F1.out.wi g1 (.inr HH.out))
  have p19 := F1.out.val.1 19 _ rfl
  have p20 := F1.out.val.1 20 _ rfl
  have p21 := F1.out.val.1 21 _ rfl
  have p22 := F1.out.val.1 22 _ rfl
  clear m1 g1 hb KV C0 BB
  go_wp2_with fail
  clear p19 p20 p21 p22
  refine (C1.out w1).mono ?_
  rintro e w2 ⟨rfl, hb⟩
  have K2 := hidL (K1.out.trans (hb.mono (Nat.le_trans HBX.out W1.out.size)))
  have M2 := hidL (M1.out.keep hb)
  have W2 := hidL (W1.out.trans (Wi.of hb))
  replace F1 := hidL (F1.out.keep hb)
  clear hb K1 M1 W1
  have p23 := F1.out.val.1 23 _ rfl
  go_wp2_with fail
  clear p23
  refine (C2.out w2).mono ?_
  rintro e w3 ⟨rfl, hb⟩
  have K3 := hidL (K2.out.trans (hb.mono (Nat.le_trans HBX.out W2.out.size)))
  have M3 := hidL (M2.out.keep hb)
  have W3 := hidL (W2.out.trans (Wi.of hb))
  replace F1 := hidL (F1.out.keep hb)
  clear hb K2 M2 W2
  have p24 := F1.out.val.1 24 _ rfl
  go_wp2_with fail
  clear p24
  refine (C3.out w3).mono ?_
  rintro e w4 ⟨rfl, hb⟩
  have K4 := hidL (K3.out.trans (hb.mono (Nat.le_trans HBX.out W3.out.size)))
  have M4 := hidL (M3.out.keep hb)
  have W4 := hidL (W3.out.trans (Wi.of hb))
  replace F1 := hidL (F1.out.keep hb)
  clear hb K3 M3 W3
  go_wp2_with fail
  go_ret
  exact ⟨rfl, M4.out, W4.out, K4.out⟩
set_option maxRecDepth 100000 in
set_option maxHeartbeats 8000000 in
theorem shN_H (w : World) (jcb jcg jco jcn jce jcf jct jcc jls jlc jlt jr1 jr2 jr3 jr4 jr5 : Int) (sb sg : Int) (ra : Option Addr) (rn rk : Nat) (lo hi : Nat) (hL : rn ≤ 1048576) (c : At lo hi (TL (.slice ra rn rk) (mkTL 1 rn)) w) :
    Calls Tryz.prog 66 #[.agg #[.int .i64 jcb, .int .i64 jcg, .int .i64 jco, .int .i64 jcn, .int .i64 jce, .int .i64 jcf, .int .i64 jct, .int .i64 jcc, .slice ra rn rk, .int .i64 jls, .int .i64 jlc, .int .i64 jlt, .int .i64 jr1, .int .i64 jr2, .int .i64 jr3, .int .i64 jr4, .int .i64 jr5, .int .i64 0, .int .i64 0, .int .i64 sb, .int .i64 sg, .slice none 0 0, .slice none 0 0, .slice none 0 0, .slice none 0 0], .int .i64 1] w fun e w' => e = .returned (.int .i64 ((1 + rn : Nat) : Int)) ∧ Below w.heap.size w w' := by
  obtain ⟨V, hV⟩ : ∃ V, V = w.alloc (.cells #[.int .i64 jcb, .int .i64 jcg, .int .i64 jco, .int .i64 jcn, .int .i64 jce, .int .i64 jcf, .int .i64 jct, .int .i64 jcc, .slice ra rn rk, .int .i64 jls, .int .i64 jlc, .int .i64 jlt, .int .i64 jr1, .int .i64 jr2, .int .i64 jr3, .int .i64 jr4, .int .i64 jr5, .int .i64 0, .int .i64 0, .int .i64 sb, .int .i64 sg, .slice none 0 0, .slice none 0 0, .slice none 0 0, .slice none 0 0] 48) := ⟨_, rfl⟩
  have HV : Hid (V = w.alloc (.cells #[.int .i64 jcb, .int .i64 jcg, .int .i64 jco, .int .i64 jcn, .int .i64 jce, .int .i64 jcf, .int .i64 jct, .int .i64 jcc, .slice ra rn rk, .int .i64 jls, .int .i64 jlc, .int .i64 jlt, .int .i64 jr1, .int .i64 jr2, .int .i64 jr3, .int .i64 jr4, .int .i64 jr5, .int .i64 0, .int .i64 0, .int .i64 sb, .int .i64 sg, .slice none 0 0, .slice none 0 0, .slice none 0 0, .slice none 0 0] 48)) := hV
  have bV : Below w.heap.size w V := by rw [hV]; exact (Below.refl _ _).alloc (Nat.le_refl _) _
  have KV := hidL bV
  have F1 := hidL (show At w.heap.size (w.heap.size + 1) (Bx w.heap.size [.int .i64 jcb, .int .i64 jcg, .int .i64 jco, .int .i64 jcn, .int .i64 jce, .int .i64 jcf, .int .i64 jct, .int .i64 jcc, .slice ra rn rk, .int .i64 jls, .int .i64 jlc, .int .i64 jlt, .int .i64 jr1, .int .i64 jr2, .int .i64 jr3, .int .i64 jr4, .int .i64 jr5, .int .i64 0, .int .i64 0, .int .i64 sb, .int .i64 sg, .slice none 0 0, .slice none 0 0, .slice none 0 0, .slice none 0 0]) V by rw [hV]; exact Bx.new _ [.int .i64 jcb, .int .i64 jcg, .int .i64 jco, .int .i64 jcn, .int .i64 jce, .int .i64 jcf, .int .i64 jct, .int .i64 jcc, .slice ra rn rk, .int .i64 jls, .int .i64 jlc, .int .i64 jlt, .int .i64 jr1, .int .i64 jr2, .int .i64 jr3, .int .i64 jr4, .int .i64 jr5, .int .i64 0, .int .i64 0, .int .i64 sb, .int .i64 sg, .slice none 0 0, .slice none 0 0, .slice none 0 0, .slice none 0 0] _)
  have C0 : Hid (Calls Tryz.prog 129 #[.agg #[.int .i64 jcb, .int .i64 jcg, .int .i64 jco, .int .i64 jcn, .int .i64 jce, .int .i64 jcf, .int .i64 jct, .int .i64 jcc, .slice ra rn rk, .int .i64 jls, .int .i64 jlc, .int .i64 jlt, .int .i64 jr1, .int .i64 jr2, .int .i64 jr3, .int .i64 jr4, .int .i64 jr5], .int .i64 1] V fun e w' => e = .returned (.int .i64 ((1 + rn : Nat) : Int)) ∧ Below V.heap.size V w') := cfgH V jcb jcg jco jcn jce jcf jct jcc jls jlc jlt jr1 jr2 jr3 jr4 jr5 ra rn rk lo hi hL (c.keep bV)
  have n1 : 0 ≤ ((1 + rn : Nat) : Int) := by omega
  obtain ⟨q, hq⟩ : ∃ q, ((1 + rn : Nat) : Int) = q := ⟨_, rfl⟩
  rw [hq] at C0 n1
  rw [hq]
  have n0 : ¬ q < 0 := by omega
  have C1 : Hid (∀ X, Calls Tryz.prog 130 #[.agg #[.int .i64 sb, .int .i64 sg, .slice none 0 0, .slice none 0 0], .int .i64 q] X fun e w' => e = .returned (.int .i64 q) ∧ Below X.heap.size X w') := fun X => heldN_Store X sb sg q n1
  have C2 := hidL (fun X => heldN_Origin X q)
  have C3 := hidL (fun X => heldN_Flight X q)
  clear c hL bV hV hq n1
  go_enter Tryz.func66, Tryz.ntmps66
  go_upto_region 1 with fail
  rw [← HV.out]
  clear HV
  have L1 := hidL F1.out.val.1
  go_wp2_with (first | ((with_reducible refine cfgI_loadAt (b := w.heap.size) (off := 0) (vs := [.int .i64 jcb, .int .i64 jcg, .int .i64 jco, .int .i64 jcn, .int .i64 jce, .int .i64 jcf, .int .i64 jct, .int .i64 jcc, .slice ra rn rk, .int .i64 jls, .int .i64 jlc, .int .i64 jlt, .int .i64 jr1, .int .i64 jr2, .int .i64 jr3, .int .i64 jr4, .int .i64 jr5, .int .i64 0, .int .i64 0, .int .i64 sb, .int .i64 sg, .slice none 0 0, .slice none 0 0, .slice none 0 0, .slice none 0 0]) (us := [.int .i64 jcb, .int .i64 jcg, .int .i64 jco, .int .i64 jcn, .int .i64 jce, .int .i64 jcf, .int .i64 jct, .int .i64 jcc, .slice ra rn rk, .int .i64 jls, .int .i64 jlc, .int .i64 jlt, .int .i64 jr1, .int .i64 jr2, .int .i64 jr3, .int .i64 jr4, .int .i64 jr5]) ?_ ?_ ?_ L1.out ?_); exact rfl; exact rfl; exact rfl))
  clear L1
  refine C0.out.mono ?_
  rintro e w1 ⟨rfl, hb⟩
  have K1 := hidL (KV.out.trans (hb.mono KV.out.size))
  replace F1 := hidL (F1.out.keep hb)
  clear hb KV C0
  have p19 := F1.out.val.1 19 _ rfl
  have p20 := F1.out.val.1 20 _ rfl
  have p21 := F1.out.val.1 21 _ rfl
  have p22 := F1.out.val.1 22 _ rfl
  go_wp2_with fail
  clear p19 p20 p21 p22
  refine (C1.out w1).mono ?_
  rintro e w2 ⟨rfl, hb⟩
  have K2 := hidL (K1.out.trans (hb.mono K1.out.size))
  replace F1 := hidL (F1.out.keep hb)
  clear hb K1
  have p23 := F1.out.val.1 23 _ rfl
  go_wp2_with fail
  clear p23
  refine (C2.out w2).mono ?_
  rintro e w3 ⟨rfl, hb⟩
  have K3 := hidL (K2.out.trans (hb.mono K2.out.size))
  replace F1 := hidL (F1.out.keep hb)
  clear hb K2
  have p24 := F1.out.val.1 24 _ rfl
  go_wp2_with fail
  clear p24
  refine (C3.out w3).mono ?_
  rintro e w4 ⟨rfl, hb⟩
  have K4 := hidL (K3.out.trans (hb.mono K3.out.size))
  replace F1 := hidL (F1.out.keep hb)
  clear hb K3
  go_wp2_with fail
  go_ret
  exact ⟨rfl, K4.out⟩
set_option maxRecDepth 100000 in
set_option maxHeartbeats 8000000 in
theorem shR_M (w : World) (rc : Int) (jcb jcg jco jcn jce jcf jct jcc jls jlc jlt jr1 jr2 jr3 jr4 jr5 : Int) (sb sg : Int) (L : List ByteArray) (ra : Option Addr) (rn rk : Nat) (lo hi base : Nat) (hn : rn = L.length) (hL : L.length ≤ 1048576) (c : At lo hi (TL (.slice ra rn rk) L) w) (hb : base ≤ lo) (hbX : base ≤ w.heap.size) :
    Calls Tryz.prog 20 #[.agg #[.int .i64 rc, .int .i64 jcb, .int .i64 jcg, .int .i64 jco, .int .i64 jcn, .int .i64 jce, .int .i64 jcf, .int .i64 jct, .int .i64 jcc, .slice ra rn rk, .int .i64 jls, .int .i64 jlc, .int .i64 jlt, .int .i64 jr1, .int .i64 jr2, .int .i64 jr3, .int .i64 jr4, .int .i64 jr5, .int .i64 0, .int .i64 0, .int .i64 sb, .int .i64 sg, .slice none 0 0, .slice none 0 0, .slice none 0 0, .slice none 0 0], .int .i64 1] w fun e w' => e = .returned (.int .i64 ((1 + rn : Nat) : Int)) ∧ At lo hi (TL (.slice ra rn rk) (mkTL 1 rn)) w' ∧ Wi lo hi w w' ∧ Below base w w' := by
  obtain ⟨V, hV⟩ : ∃ V, V = w.alloc (.cells #[.int .i64 rc, .int .i64 jcb, .int .i64 jcg, .int .i64 jco, .int .i64 jcn, .int .i64 jce, .int .i64 jcf, .int .i64 jct, .int .i64 jcc, .slice ra rn rk, .int .i64 jls, .int .i64 jlc, .int .i64 jlt, .int .i64 jr1, .int .i64 jr2, .int .i64 jr3, .int .i64 jr4, .int .i64 jr5, .int .i64 0, .int .i64 0, .int .i64 sb, .int .i64 sg, .slice none 0 0, .slice none 0 0, .slice none 0 0, .slice none 0 0] 54) := ⟨_, rfl⟩
  have HV : Hid (V = w.alloc (.cells #[.int .i64 rc, .int .i64 jcb, .int .i64 jcg, .int .i64 jco, .int .i64 jcn, .int .i64 jce, .int .i64 jcf, .int .i64 jct, .int .i64 jcc, .slice ra rn rk, .int .i64 jls, .int .i64 jlc, .int .i64 jlt, .int .i64 jr1, .int .i64 jr2, .int .i64 jr3, .int .i64 jr4, .int .i64 jr5, .int .i64 0, .int .i64 0, .int .i64 sb, .int .i64 sg, .slice none 0 0, .slice none 0 0, .slice none 0 0, .slice none 0 0] 54)) := hV
  have bV : Below w.heap.size w V := by rw [hV]; exact (Below.refl _ _).alloc (Nat.le_refl _) _
  have KV := hidL bV
  have F1 := hidL (show At w.heap.size (w.heap.size + 1) (Bx w.heap.size [.int .i64 rc, .int .i64 jcb, .int .i64 jcg, .int .i64 jco, .int .i64 jcn, .int .i64 jce, .int .i64 jcf, .int .i64 jct, .int .i64 jcc, .slice ra rn rk, .int .i64 jls, .int .i64 jlc, .int .i64 jlt, .int .i64 jr1, .int .i64 jr2, .int .i64 jr3, .int .i64 jr4, .int .i64 jr5, .int .i64 0, .int .i64 0, .int .i64 sb, .int .i64 sg, .slice none 0 0, .slice none 0 0, .slice none 0 0, .slice none 0 0]) V by rw [hV]; exact Bx.new _ [.int .i64 rc, .int .i64 jcb, .int .i64 jcg, .int .i64 jco, .int .i64 jcn, .int .i64 jce, .int .i64 jcf, .int .i64 jct, .int .i64 jcc, .slice ra rn rk, .int .i64 jls, .int .i64 jlc, .int .i64 jlt, .int .i64 jr1, .int .i64 jr2, .int .i64 jr3, .int .i64 jr4, .int .i64 jr5, .int .i64 0, .int .i64 0, .int .i64 sb, .int .i64 sg, .slice none 0 0, .slice none 0 0, .slice none 0 0, .slice none 0 0] _)
  have C0 : Hid (Calls Tryz.prog 25 #[.agg #[.int .i64 jcb, .int .i64 jcg, .int .i64 jco, .int .i64 jcn, .int .i64 jce, .int .i64 jcf, .int .i64 jct, .int .i64 jcc, .slice ra rn rk, .int .i64 jls, .int .i64 jlc, .int .i64 jlt, .int .i64 jr1, .int .i64 jr2, .int .i64 jr3, .int .i64 jr4, .int .i64 jr5, .int .i64 0, .int .i64 0, .int .i64 sb, .int .i64 sg, .slice none 0 0, .slice none 0 0, .slice none 0 0, .slice none 0 0], .int .i64 1] V fun e w' => e = .returned (.int .i64 ((1 + rn : Nat) : Int)) ∧ At lo hi (TL (.slice ra rn rk) (mkTL 1 rn)) w' ∧ Wi lo hi V w' ∧ Below base V w') := shN_M V jcb jcg jco jcn jce jcf jct jcc jls jlc jlt jr1 jr2 jr3 jr4 jr5 sb sg L ra rn rk lo hi base hn hL (c.keep bV) hb (Nat.le_trans hbX bV.size)
  have BB := hidL (bV.mono hbX)
  generalize ((1 + rn : Nat) : Int) = q at *
  clear c hb hbX hL bV hV hn
  go_enter Tryz.func20, Tryz.ntmps20
  go_upto_region 1 with fail
  rw [← HV.out]
  clear HV
  have L1 := hidL F1.out.val.1
  go_wp2_with (first | ((with_reducible refine shI_loadAt (b := w.heap.size) (off := 1) (vs := [.int .i64 rc, .int .i64 jcb, .int .i64 jcg, .int .i64 jco, .int .i64 jcn, .int .i64 jce, .int .i64 jcf, .int .i64 jct, .int .i64 jcc, .slice ra rn rk, .int .i64 jls, .int .i64 jlc, .int .i64 jlt, .int .i64 jr1, .int .i64 jr2, .int .i64 jr3, .int .i64 jr4, .int .i64 jr5, .int .i64 0, .int .i64 0, .int .i64 sb, .int .i64 sg, .slice none 0 0, .slice none 0 0, .slice none 0 0, .slice none 0 0]) (us := [.int .i64 jcb, .int .i64 jcg, .int .i64 jco, .int .i64 jcn, .int .i64 jce, .int .i64 jcf, .int .i64 jct, .int .i64 jcc, .slice ra rn rk, .int .i64 jls, .int .i64 jlc, .int .i64 jlt, .int .i64 jr1, .int .i64 jr2, .int .i64 jr3, .int .i64 jr4, .int .i64 jr5, .int .i64 0, .int .i64 0, .int .i64 sb, .int .i64 sg, .slice none 0 0, .slice none 0 0, .slice none 0 0, .slice none 0 0]) ?_ ?_ ?_ L1.out ?_); exact rfl; exact rfl; exact rfl))
  clear L1
  refine C0.out.mono ?_
  rintro e w1 ⟨rfl, m1, g1, hb⟩
  have K1 := hidL (show _ ∧ _ ∧ _ from ⟨m1, (Wi.of (lo := lo) (hi := hi) KV.out).trans g1, BB.out.trans hb⟩)
  clear m1 g1 hb KV C0 BB F1
  go_wp2_with fail
  go_ret
  exact ⟨rfl, K1.out⟩
set_option maxRecDepth 100000 in
set_option maxHeartbeats 8000000 in
theorem shR_H (w : World) (rc : Int) (jcb jcg jco jcn jce jcf jct jcc jls jlc jlt jr1 jr2 jr3 jr4 jr5 : Int) (sb sg : Int) (ra : Option Addr) (rn rk : Nat) (lo hi : Nat) (hL : rn ≤ 1048576) (c : At lo hi (TL (.slice ra rn rk) (mkTL 1 rn)) w) :
    Calls Tryz.prog 21 #[.agg #[.int .i64 rc, .int .i64 jcb, .int .i64 jcg, .int .i64 jco, .int .i64 jcn, .int .i64 jce, .int .i64 jcf, .int .i64 jct, .int .i64 jcc, .slice ra rn rk, .int .i64 jls, .int .i64 jlc, .int .i64 jlt, .int .i64 jr1, .int .i64 jr2, .int .i64 jr3, .int .i64 jr4, .int .i64 jr5, .int .i64 0, .int .i64 0, .int .i64 sb, .int .i64 sg, .slice none 0 0, .slice none 0 0, .slice none 0 0, .slice none 0 0], .int .i64 1] w fun e w' => e = .returned (.int .i64 ((1 + rn : Nat) : Int)) ∧ Below w.heap.size w w' := by
  obtain ⟨V, hV⟩ : ∃ V, V = w.alloc (.cells #[.int .i64 rc, .int .i64 jcb, .int .i64 jcg, .int .i64 jco, .int .i64 jcn, .int .i64 jce, .int .i64 jcf, .int .i64 jct, .int .i64 jcc, .slice ra rn rk, .int .i64 jls, .int .i64 jlc, .int .i64 jlt, .int .i64 jr1, .int .i64 jr2, .int .i64 jr3, .int .i64 jr4, .int .i64 jr5, .int .i64 0, .int .i64 0, .int .i64 sb, .int .i64 sg, .slice none 0 0, .slice none 0 0, .slice none 0 0, .slice none 0 0] 54) := ⟨_, rfl⟩
  have HV : Hid (V = w.alloc (.cells #[.int .i64 rc, .int .i64 jcb, .int .i64 jcg, .int .i64 jco, .int .i64 jcn, .int .i64 jce, .int .i64 jcf, .int .i64 jct, .int .i64 jcc, .slice ra rn rk, .int .i64 jls, .int .i64 jlc, .int .i64 jlt, .int .i64 jr1, .int .i64 jr2, .int .i64 jr3, .int .i64 jr4, .int .i64 jr5, .int .i64 0, .int .i64 0, .int .i64 sb, .int .i64 sg, .slice none 0 0, .slice none 0 0, .slice none 0 0, .slice none 0 0] 54)) := hV
  have bV : Below w.heap.size w V := by rw [hV]; exact (Below.refl _ _).alloc (Nat.le_refl _) _
  have KV := hidL bV
  have F1 := hidL (show At w.heap.size (w.heap.size + 1) (Bx w.heap.size [.int .i64 rc, .int .i64 jcb, .int .i64 jcg, .int .i64 jco, .int .i64 jcn, .int .i64 jce, .int .i64 jcf, .int .i64 jct, .int .i64 jcc, .slice ra rn rk, .int .i64 jls, .int .i64 jlc, .int .i64 jlt, .int .i64 jr1, .int .i64 jr2, .int .i64 jr3, .int .i64 jr4, .int .i64 jr5, .int .i64 0, .int .i64 0, .int .i64 sb, .int .i64 sg, .slice none 0 0, .slice none 0 0, .slice none 0 0, .slice none 0 0]) V by rw [hV]; exact Bx.new _ [.int .i64 rc, .int .i64 jcb, .int .i64 jcg, .int .i64 jco, .int .i64 jcn, .int .i64 jce, .int .i64 jcf, .int .i64 jct, .int .i64 jcc, .slice ra rn rk, .int .i64 jls, .int .i64 jlc, .int .i64 jlt, .int .i64 jr1, .int .i64 jr2, .int .i64 jr3, .int .i64 jr4, .int .i64 jr5, .int .i64 0, .int .i64 0, .int .i64 sb, .int .i64 sg, .slice none 0 0, .slice none 0 0, .slice none 0 0, .slice none 0 0] _)
  have C0 : Hid (Calls Tryz.prog 66 #[.agg #[.int .i64 jcb, .int .i64 jcg, .int .i64 jco, .int .i64 jcn, .int .i64 jce, .int .i64 jcf, .int .i64 jct, .int .i64 jcc, .slice ra rn rk, .int .i64 jls, .int .i64 jlc, .int .i64 jlt, .int .i64 jr1, .int .i64 jr2, .int .i64 jr3, .int .i64 jr4, .int .i64 jr5, .int .i64 0, .int .i64 0, .int .i64 sb, .int .i64 sg, .slice none 0 0, .slice none 0 0, .slice none 0 0, .slice none 0 0], .int .i64 1] V fun e w' => e = .returned (.int .i64 ((1 + rn : Nat) : Int)) ∧ Below V.heap.size V w') := shN_H V jcb jcg jco jcn jce jcf jct jcc jls jlc jlt jr1 jr2 jr3 jr4 jr5 sb sg ra rn rk lo hi hL (c.keep bV)
  have n0 : ¬ ((1 + rn : Nat) : Int) < 0 := by omega
  generalize ((1 + rn : Nat) : Int) = q at *
  clear c hL bV hV
  go_enter Tryz.func21, Tryz.ntmps21
  go_upto_region 1 with fail
  rw [← HV.out]
  clear HV
  have L1 := hidL F1.out.val.1
  go_wp2_with (first | ((with_reducible refine shI_loadAt (b := w.heap.size) (off := 1) (vs := [.int .i64 rc, .int .i64 jcb, .int .i64 jcg, .int .i64 jco, .int .i64 jcn, .int .i64 jce, .int .i64 jcf, .int .i64 jct, .int .i64 jcc, .slice ra rn rk, .int .i64 jls, .int .i64 jlc, .int .i64 jlt, .int .i64 jr1, .int .i64 jr2, .int .i64 jr3, .int .i64 jr4, .int .i64 jr5, .int .i64 0, .int .i64 0, .int .i64 sb, .int .i64 sg, .slice none 0 0, .slice none 0 0, .slice none 0 0, .slice none 0 0]) (us := [.int .i64 jcb, .int .i64 jcg, .int .i64 jco, .int .i64 jcn, .int .i64 jce, .int .i64 jcf, .int .i64 jct, .int .i64 jcc, .slice ra rn rk, .int .i64 jls, .int .i64 jlc, .int .i64 jlt, .int .i64 jr1, .int .i64 jr2, .int .i64 jr3, .int .i64 jr4, .int .i64 jr5, .int .i64 0, .int .i64 0, .int .i64 sb, .int .i64 sg, .slice none 0 0, .slice none 0 0, .slice none 0 0, .slice none 0 0]) ?_ ?_ ?_ L1.out ?_); exact rfl; exact rfl; exact rfl))
  clear L1
  refine C0.out.mono ?_
  rintro e w1 ⟨rfl, hb⟩
  have K1 := hidL (KV.out.trans (hb.mono KV.out.size))
  clear hb KV C0 F1
  go_wp2_with fail
  go_ret
  exact ⟨rfl, K1.out⟩
end Go.Proofs.YtlbagfaiiileoaaGreatDoor
/-
  Pieces of the program's copying of an entry: lineOf, bytes.Clone, one more behind a row.
-/
namespace Go.Proofs.YtlbagfaiiileoaaGreatDoor
open Go.ChangeShapes Go.WideShapes Go.ChangeAt Go.RowKit Go.Sort
end Go.Proofs.YtlbagfaiiileoaaGreatDoor
/-
  Texts that are copied, by the program.
-/
namespace Go.Proofs.YtlbagfaiiileoaaGreatDoor
open Go.ChangeShapes Go.WideShapes Go.ChangeAt Go.RowKit Go.Sort
set_option maxRecDepth 100000 in
set_option maxHeartbeats 8000000 in
theorem textsAnew_any (w : World) (a : Option Addr) (cap : Nat) (l : List ByteArray) (hl : l.length ≤ 1048576) (hs : ∀ r ∈ l, r.size ≤ 1048576) (hi : TIn w a l) :
    Calls Tryz.prog 127 #[.slice a l.length cap] w fun e w' => (∃ v, e = .returned v ∧ RowT w' w.heap.size v l) ∧ Below w.heap.size w w' := by
  have HI : Hid (TIn w a l) := hi
  have HSM : Hid (∀ r ∈ l, r.size ≤ 1048576) := hs
  obtain ⟨i0, hi0, hz0, hz1, hz2⟩ := info_parts cTextI
  clear hi hs
  generalize hn : l.length = n at *
  have HN : Hid (l.length = n) := hn
  clear hn
  go_enter Tryz.func127, Tryz.ntmps127
  go_wp2_with fail
  go_loopw [3, 8] (fun v i wr => ∃ k : Nat, k ≤ n ∧ i = .int .i64 k ∧ wr.ownsRow w.heap.size 9 1 v k (cTexts (l.take k)) ∧ Below w.heap.size w wr) (fun _ i _ => n - (intOf i).toNat)
  case atStart => exact ⟨0, Nat.zero_le _, rfl, World.ownsRow_nil _ _ _ _, Below.refl _ _⟩
  case round =>
    obtain ⟨k, hk, rfl, hrow, hb⟩ := hrel
    obtain ⟨va, vc, rfl, _⟩ := row_form hrow
    by_cases hlt : k < n
    · obtain ⟨r, hr⟩ : ∃ r, l[k]? = some r := ⟨l[k]'(by have := HN.out; omega), List.getElem?_eq_getElem _⟩
      rcases HI.out with e | ⟨b', off', er, hat⟩
      · rw [e] at hr; simp at hr
      have p0 : wr.cell? ⟨b', off' + k, none⟩ = some (.string r) := (hat.keep hb) k r hr
      have sm := HSM.out r (List.mem_of_getElem? hr)
      rw [er]
      have g : (k : Int) < n := by omega
      have g0 : (0 : Int) ≤ k := by omega
      have R2 : Hid (wr.ownsRow w.heap.size 9 1 (.slice va k vc) k (cTexts (l.take k)) ∧ Below w.heap.size w wr) := ⟨hrow, hb⟩
      have HT : Hid (cTexts (l.take k) ++ [.string r] = cTexts (l.take (k + 1))) := by
        show _ = _
        obtain ⟨hk2, rfl⟩ := List.getElem?_eq_some_iff.1 hr
        rw [List.take_succ_eq_append_getElem hk2]
        unfold cTexts
        rw [List.map_append]
        rfl
      have CL : Hid (∀ X, Calls Tryz.prog 135 #[.string r] X fun e w' => e = .returned (.string r) ∧ Below X.heap.size X w') := fun X => clone_text _ X sm
      clear hrow hat hr sm hb
      go_wp2_with fail
      refine (CL.out _).mono ?_
      rintro e0 wa ⟨rfl, hba⟩
      have N3 : Hid (1 = 0 ∨ ∃ ad, some (⟨wa.heap.size, 0, none⟩ : Addr) = some ad ∧ ∀ j u, ([Value.string r])[j]? = some u → (wa.alloc (.cells #[.string r] 9)).cell? (ad.add j) = some u) := by
        refine .inr ⟨_, rfl, fun j u hj => ?_⟩
        rw [cadd]
        match j, hj with
        | 0, hj => simp at hj; subst hj; simp
      have b3 : Below wr.heap.size wr (wa.alloc (.cells #[.string r] 9)) := hba.alloc hba.size _
      have RR3 : Hid ((wa.alloc (.cells #[.string r] 9)).ownsRow w.heap.size 9 1 (.slice va k vc) k (cTexts (l.take k)) ∧ Below w.heap.size w (wa.alloc (.cells #[.string r] 9))) := ⟨row_below R2.out.1 b3, R2.out.2.trans (b3.mono R2.out.2.size)⟩
      clear b3 hba R2 p0
      go_wp2_with (at_builtin; refine wpList_plain rfl fun _ hK => wp_append_in _ (.tmp 12) (.tmp 15) 22 9 rfl i0 _ 1 16 Tryz.underlying22 hi0 hz0 hz1 hz2 rfl (by omega) w.heap.size _ k (cTexts (l.take k)) rfl RR3.out.1 (some ⟨wa.heap.size, 0, none⟩) 1 1 [.string r] rfl rfl N3.out (fun u hu => by simp at hu; subst hu; rfl) (by unfold maxLen; omega) (by omega) RR3.out.2.size (fun v' w' h1 h2 _ => hK _ _ ?_))
      have HF : Hid (w'.ownsRow w.heap.size 9 1 v' (k + 1) (cTexts (l.take (k + 1))) ∧ Below w.heap.size w w') := by
        rw [HT.out] at h1
        exact ⟨h1, RR3.out.2.trans h2⟩
      clear h1 h2 RR3 N3
      go_wp2_with fail
      go_roundw
      case rel => exact ⟨k + 1, by omega, by go_num, HF.out.1, HF.out.2⟩
      case measure => simp [intOf]; omega
    · have HF : Hid (RowT wr w.heap.size (.slice va k vc) l) := by
        have e : l.take k = l := List.take_of_length_le (by have := HN.out; omega)
        have := hrow
        rw [e] at this
        have hkn : k = l.length := by have := HN.out; omega
        subst hkn
        exact this
      clear hrow
      go_wp2_with fail
      go_ret
      exact ⟨⟨_, rfl, HF.out⟩, hb⟩
end Go.Proofs.YtlbagfaiiileoaaGreatDoor
/-
  A config that is copied, by the model and by the program.
-/
namespace Go.Proofs.YtlbagfaiiileoaaGreatDoor
open Go.ChangeShapes Go.WideShapes Go.ChangeAt Go.RowKit Go.Sort
set_option maxRecDepth 100000 in
set_option maxHeartbeats 8000000 in
theorem l14Copy_any (w : World) (O : Nat) (cb cg co cn ce cf ct cc : Int) (na : Option Addr) (nc : Nat) (ns : List ByteArray) (ls lc lt r1 r2 r3 r4 r5 : Int) (hl : ns.length ≤ 1048576) (hi : TIn w na ns) (hB : At O (O + 1) (Bx O [.int .i64 cb, .int .i64 cg, .int .i64 co, .int .i64 cn, .int .i64 ce, .int .i64 cf, .int .i64 ct, .int .i64 cc, .slice na ns.length nc, .int .i64 ls, .int .i64 lc, .int .i64 lt, .int .i64 r1, .int .i64 r2, .int .i64 r3, .int .i64 r4, .int .i64 r5]) w) :
    Calls Tryz.prog 56 #[.pointer (some ⟨O, 0, none⟩)] w fun e w' => (∃ va vc, e = .returned (.agg #[.int .i64 cb, .int .i64 cg, .int .i64 co, .int .i64 cn, .int .i64 ce, .int .i64 cf, .int .i64 ct, .int .i64 cc, .slice va ns.length vc, .int .i64 ls, .int .i64 lc, .int .i64 lt, .int .i64 r1, .int .i64 r2, .int .i64 r3, .int .i64 r4, .int .i64 r5]) ∧ At w.heap.size w'.heap.size (NL ns va ns.length vc) w') ∧ Below w.heap.size w w' := by
  obtain ⟨Z, hZ⟩ : ∃ Z, Z = w.alloc (.cells #[.int .i64 0, .int .i64 0, .int .i64 0, .int .i64 0, .int .i64 0, .int .i64 0, .int .i64 0, .int .i64 0, .slice none 0 0, .int .i64 0, .int .i64 0, .int .i64 0, .int .i64 0, .int .i64 0, .int .i64 0, .int .i64 0, .int .i64 0] 41) := ⟨_, rfl⟩
  have HZ : Hid (Z = w.alloc (.cells #[.int .i64 0, .int .i64 0, .int .i64 0, .int .i64 0, .int .i64 0, .int .i64 0, .int .i64 0, .int .i64 0, .slice none 0 0, .int .i64 0, .int .i64 0, .int .i64 0, .int .i64 0, .int .i64 0, .int .i64 0, .int .i64 0, .int .i64 0] 41)) := hZ
  have bZ : Below w.heap.size w Z := by rw [hZ]; exact (Below.refl _ _).alloc (Nat.le_refl _) _
  obtain ⟨V, hV⟩ : ∃ V, V = Z.alloc (.cells #[.int .i64 cb, .int .i64 cg, .int .i64 co, .int .i64 cn, .int .i64 ce, .int .i64 cf, .int .i64 ct, .int .i64 cc, .slice na ns.length nc, .int .i64 ls, .int .i64 lc, .int .i64 lt, .int .i64 r1, .int .i64 r2, .int .i64 r3, .int .i64 r4, .int .i64 r5] 41) := ⟨_, rfl⟩
  have HV : Hid (V = Z.alloc (.cells #[.int .i64 cb, .int .i64 cg, .int .i64 co, .int .i64 cn, .int .i64 ce, .int .i64 cf, .int .i64 ct, .int .i64 cc, .slice na ns.length nc, .int .i64 ls, .int .i64 lc, .int .i64 lt, .int .i64 r1, .int .i64 r2, .int .i64 r3, .int .i64 r4, .int .i64 r5] 41)) := hV
  have bV : Below w.heap.size w V := by rw [hV]; exact bZ.alloc bZ.size _
  have szZ : Z.heap.size = w.heap.size + 1 := by rw [hZ]; simp
  have KV := hidL bV
  have SZ := hidL (show w.heap.size + 2 ≤ V.heap.size by rw [hV]; simp; omega)
  have FZ := hidL (show At w.heap.size (w.heap.size + 1) (Bx w.heap.size [.int .i64 0, .int .i64 0, .int .i64 0, .int .i64 0, .int .i64 0, .int .i64 0, .int .i64 0, .int .i64 0, .slice none 0 0, .int .i64 0, .int .i64 0, .int .i64 0, .int .i64 0, .int .i64 0, .int .i64 0, .int .i64 0, .int .i64 0]) V by rw [hV, hZ]; exact (Bx.new _ [.int .i64 0, .int .i64 0, .int .i64 0, .int .i64 0, .int .i64 0, .int .i64 0, .int .i64 0, .int .i64 0, .slice none 0 0, .int .i64 0, .int .i64 0, .int .i64 0, .int .i64 0, .int .i64 0, .int .i64 0, .int .i64 0, .int .i64 0] _).al _)
  have F1 := hidL (show At (w.heap.size + 1) (w.heap.size + 1 + 1) (Bx (w.heap.size + 1) [.int .i64 cb, .int .i64 cg, .int .i64 co, .int .i64 cn, .int .i64 ce, .int .i64 cf, .int .i64 ct, .int .i64 cc, .slice na ns.length nc, .int .i64 ls, .int .i64 lc, .int .i64 lt, .int .i64 r1, .int .i64 r2, .int .i64 r3, .int .i64 r4, .int .i64 r5]) V by rw [hV]; exact Bx.newAt szZ [.int .i64 cb, .int .i64 cg, .int .i64 co, .int .i64 cn, .int .i64 ce, .int .i64 cf, .int .i64 ct, .int .i64 cc, .slice na ns.length nc, .int .i64 ls, .int .i64 lc, .int .i64 lt, .int .i64 r1, .int .i64 r2, .int .i64 r3, .int .i64 r4, .int .i64 r5] _)
  have FO := hidL (hB.keep bV)
  have LZ := hidL (hB.keep bZ).val.1
  have CT : Hid (Calls Tryz.prog 126 #[.slice na ns.length nc] V fun e w' => (∃ v, e = .returned v ∧ RowT w' V.heap.size v ns) ∧ Below V.heap.size V w') := l1Texts_in V na nc ns hl (hi.keep bV)
  clear hZ hV bV bZ hB hi hl
  obtain ⟨n, hn⟩ : ∃ n, ns.length = n := ⟨_, rfl⟩
  have HN : Hid (ns.length = n) := hn
  rw [hn] at HV F1 FO LZ CT ⊢
  clear hn
  go_enter Tryz.func56, Tryz.ntmps56
  go_upto_region 1 with fail
  rw [← HZ.out]
  go_upto_region 2 with (first | ((with_reducible refine cfgI_load (b := O) (vs := [.int .i64 cb, .int .i64 cg, .int .i64 co, .int .i64 cn, .int .i64 ce, .int .i64 cf, .int .i64 ct, .int .i64 cc, .slice na n nc, .int .i64 ls, .int .i64 lc, .int .i64 lt, .int .i64 r1, .int .i64 r2, .int .i64 r3, .int .i64 r4, .int .i64 r5]) ?_ ?_ LZ.out ?_); exact rfl; exact rfl) | ((with_reducible refine cfgI_store (c' := #[.int .i64 cb, .int .i64 cg, .int .i64 co, .int .i64 cn, .int .i64 ce, .int .i64 cf, .int .i64 ct, .int .i64 cc, .slice na n nc, .int .i64 ls, .int .i64 lc, .int .i64 lt, .int .i64 r1, .int .i64 r2, .int .i64 r3, .int .i64 r4, .int .i64 r5]) ?_ ?_ ?_ ?_ ?_ ?_); exact rfl; exact rfl; exact rfl; exact rfl; exact rfl))
  rw [← HV.out]
  clear LZ HZ HV
  have q8 := FO.out.val.1 8 _ rfl
  go_wp2_with fail
  refine CT.out.mono ?_
  rintro e0 w1 ⟨⟨v, rfl, ho⟩, hb⟩
  obtain ⟨va, vc, rfl, _, _⟩ := ho.in
  rw [HN.out] at ho ⊢
  have K1 := hidL (KV.out.trans (hb.mono KV.out.size))
  have HH := hidL ho
  replace FZ := hidL (FZ.out.keep hb)
  replace F1 := hidL (F1.out.keep hb)
  clear hb ho q8 CT FO
  have f8 := F1.out.val.1 8 _ rfl
  have g8 := F1.out.val.2 8
  obtain ⟨U, hU⟩ : ∃ U, U = w1.setCell ⟨w.heap.size + 1, 8, none⟩ (.slice va n vc) := ⟨_, rfl⟩
  have HU : Hid (U = w1.setCell ⟨w.heap.size + 1, 8, none⟩ (.slice va n vc)) := hU
  have s0 := SZ.out
  have KU := hidL (show Below w.heap.size w U by rw [hU]; exact K1.out.setCell (by simp only; omega) _)
  have FZ2 := hidL (show At (w.heap.size) (w.heap.size + 1) (Bx (w.heap.size) [.int .i64 0, .int .i64 0, .int .i64 0, .int .i64 0, .int .i64 0, .int .i64 0, .int .i64 0, .int .i64 0, .slice none 0 0, .int .i64 0, .int .i64 0, .int .i64 0, .int .i64 0, .int .i64 0, .int .i64 0, .int .i64 0, .int .i64 0]) U by rw [hU]; exact FZ.out.set _ (by omega))
  have FB2 := hidL (show At (w.heap.size + 1) (w.heap.size + 1 + 1) (Bx (w.heap.size + 1) [.int .i64 cb, .int .i64 cg, .int .i64 co, .int .i64 cn, .int .i64 ce, .int .i64 cf, .int .i64 ct, .int .i64 cc, .slice va n vc, .int .i64 ls, .int .i64 lc, .int .i64 lt, .int .i64 r1, .int .i64 r2, .int .i64 r3, .int .i64 r4, .int .i64 r5]) U by rw [hU]; exact Bx.put F1.out 8 _ (by simp))
  have RT := hidL (show At V.heap.size w1.heap.size (TL (.slice va n vc) ns) U by rw [hU]; exact (RowT.at HH.out).set _ (by omega))
  have sU : U.heap.size = w1.heap.size := by rw [hU]; simp
  clear hU
  go_upto_region 3 with fail
  rw [← HU.out]
  clear HU f8 g8 F1 FZ K1 HH
  refine wp_copyOut (b1 := w.heap.size + 1) (b2 := w.heap.size) (vs := [.int .i64 cb, .int .i64 cg, .int .i64 co, .int .i64 cn, .int .i64 ce, .int .i64 cf, .int .i64 ct, .int .i64 cc, .slice va n vc, .int .i64 ls, .int .i64 lc, .int .i64 lt, .int .i64 r1, .int .i64 r2, .int .i64 r3, .int .i64 r4, .int .i64 r5]) (zs := [.int .i64 0, .int .i64 0, .int .i64 0, .int .i64 0, .int .i64 0, .int .i64 0, .int .i64 0, .int .i64 0, .slice none 0 0, .int .i64 0, .int .i64 0, .int .i64 0, .int .i64 0, .int .i64 0, .int .i64 0, .int .i64 0, .int .i64 0]) Tryz.underlying41 cfgI_size rfl (fun _ => rfl) (fun _ => rfl) FB2.out.val.1 FZ2.out.val.1 FZ2.out.val.2 rfl rfl ?_
  obtain ⟨VF, hVF⟩ : ∃ V, V = putAll U (w.heap.size) 0 [.int .i64 cb, .int .i64 cg, .int .i64 co, .int .i64 cn, .int .i64 ce, .int .i64 cf, .int .i64 ct, .int .i64 cc, .slice va n vc, .int .i64 ls, .int .i64 lc, .int .i64 lt, .int .i64 r1, .int .i64 r2, .int .i64 r3, .int .i64 r4, .int .i64 r5] := ⟨_, rfl⟩
  rw [← hVF]
  have R : At (w.heap.size) (w.heap.size + 1) (Bx (w.heap.size) [.int .i64 cb, .int .i64 cg, .int .i64 co, .int .i64 cn, .int .i64 ce, .int .i64 cf, .int .i64 ct, .int .i64 cc, .slice va n vc, .int .i64 ls, .int .i64 lc, .int .i64 lt, .int .i64 r1, .int .i64 r2, .int .i64 r3, .int .i64 r4, .int .i64 r5]) VF := by rw [hVF]; exact Bx.putAll FZ2.out [.int .i64 cb, .int .i64 cg, .int .i64 co, .int .i64 cn, .int .i64 ce, .int .i64 cf, .int .i64 ct, .int .i64 cc, .slice va n vc, .int .i64 ls, .int .i64 lc, .int .i64 lt, .int .i64 r1, .int .i64 r2, .int .i64 r3, .int .i64 r4, .int .i64 r5] rfl
  have KF : Below w.heap.size w VF := by rw [hVF]; exact below_putAll (by omega) [.int .i64 cb, .int .i64 cg, .int .i64 co, .int .i64 cn, .int .i64 ce, .int .i64 cf, .int .i64 ct, .int .i64 cc, .slice va n vc, .int .i64 ls, .int .i64 lc, .int .i64 lt, .int .i64 r1, .int .i64 r2, .int .i64 r3, .int .i64 r4, .int .i64 r5] 0 KU.out
  have E1 : At V.heap.size w1.heap.size (TL (.slice va n vc) ns) VF := by rw [hVF]; exact At.putAll (by omega) [.int .i64 cb, .int .i64 cg, .int .i64 co, .int .i64 cn, .int .i64 ce, .int .i64 cf, .int .i64 ct, .int .i64 cc, .slice va n vc, .int .i64 ls, .int .i64 lc, .int .i64 lt, .int .i64 r1, .int .i64 r2, .int .i64 r3, .int .i64 r4, .int .i64 r5] 0 RT.out
  have hn := HN.out
  have z1 := E1.le
  have z2 := KV.out.size
  have ER := hidL (show At w.heap.size VF.heap.size (NL ns va n vc) VF from ⟨Nat.le_refl _, NL.dep _ _ _ _ _ _, hn.symm, E1.val.wide (by omega) (by omega)⟩)
  clear hVF FB2 FZ2 KU RT sU hn z1 z2 E1
  go_wp2_with fail
  have rz0 := R.val.1 0 _ rfl
  have rz1 := R.val.1 1 _ rfl
  have rz2 := R.val.1 2 _ rfl
  have rz3 := R.val.1 3 _ rfl
  have rz4 := R.val.1 4 _ rfl
  have rz5 := R.val.1 5 _ rfl
  have rz6 := R.val.1 6 _ rfl
  have rz7 := R.val.1 7 _ rfl
  have rz8 := R.val.1 8 _ rfl
  have rz9 := R.val.1 9 _ rfl
  have rz10 := R.val.1 10 _ rfl
  have rz11 := R.val.1 11 _ rfl
  have rz12 := R.val.1 12 _ rfl
  have rz13 := R.val.1 13 _ rfl
  have rz14 := R.val.1 14 _ rfl
  have rz15 := R.val.1 15 _ rfl
  have rz16 := R.val.1 16 _ rfl
  refine bodyPost_ret (v := .agg #[.int .i64 cb, .int .i64 cg, .int .i64 co, .int .i64 cn, .int .i64 ce, .int .i64 cf, .int .i64 ct, .int .i64 cc, .slice va n vc, .int .i64 ls, .int .i64 lc, .int .i64 lt, .int .i64 r1, .int .i64 r2, .int .i64 r3, .int .i64 r4, .int .i64 r5]) ?_ rfl ⟨⟨va, vc, rfl, ER.out⟩, KF⟩
  simp [results, Tryz.results56, go_sem, rz0, rz1, rz2, rz3, rz4, rz5, rz6, rz7, rz8, rz9, rz10, rz11, rz12, rz13, rz14, rz15, rz16]
set_option maxRecDepth 100000 in
set_option maxHeartbeats 8000000 in
theorem configAnew_any (w : World) (cb cg co cn ce cf ct cc : Int) (na : Option Addr) (nc : Nat) (ns : List ByteArray) (ls lc lt r1 r2 r3 r4 r5 : Int) (hl : ns.length ≤ 1048576) (hz : ∀ r ∈ ns, r.size ≤ 1048576) (hi : TIn w na ns) :
    Calls Tryz.prog 60 #[.agg #[.int .i64 cb, .int .i64 cg, .int .i64 co, .int .i64 cn, .int .i64 ce, .int .i64 cf, .int .i64 ct, .int .i64 cc, .slice na ns.length nc, .int .i64 ls, .int .i64 lc, .int .i64 lt, .int .i64 r1, .int .i64 r2, .int .i64 r3, .int .i64 r4, .int .i64 r5]] w fun e w' => (∃ va vc, e = .returned (.agg #[.int .i64 cb, .int .i64 cg, .int .i64 co, .int .i64 cn, .int .i64 ce, .int .i64 cf, .int .i64 ct, .int .i64 cc, .slice va ns.length vc, .int .i64 ls, .int .i64 lc, .int .i64 lt, .int .i64 r1, .int .i64 r2, .int .i64 r3, .int .i64 r4, .int .i64 r5]) ∧ At w.heap.size w'.heap.size (NL ns va ns.length vc) w') ∧ Below w.heap.size w w' := by
  obtain ⟨V, hV⟩ : ∃ V, V = (w.alloc (.cells #[.int .i64 cb, .int .i64 cg, .int .i64 co, .int .i64 cn, .int .i64 ce, .int .i64 cf, .int .i64 ct, .int .i64 cc, .slice na ns.length nc, .int .i64 ls, .int .i64 lc, .int .i64 lt, .int .i64 r1, .int .i64 r2, .int .i64 r3, .int .i64 r4, .int .i64 r5] 41)).alloc (.cells #[.int .i64 0, .int .i64 0, .int .i64 0, .int .i64 0, .int .i64 0, .int .i64 0, .int .i64 0, .int .i64 0, .slice none 0 0, .int .i64 0, .int .i64 0, .int .i64 0, .int .i64 0, .int .i64 0, .int .i64 0, .int .i64 0, .int .i64 0] 41) := ⟨_, rfl⟩
  have HV : Hid (V = (w.alloc (.cells #[.int .i64 cb, .int .i64 cg, .int .i64 co, .int .i64 cn, .int .i64 ce, .int .i64 cf, .int .i64 ct, .int .i64 cc, .slice na ns.length nc, .int .i64 ls, .int .i64 lc, .int .i64 lt, .int .i64 r1, .int .i64 r2, .int .i64 r3, .int .i64 r4, .int .i64 r5] 41)).alloc (.cells #[.int .i64 0, .int .i64 0, .int .i64 0, .int .i64 0, .int .i64 0, .int .i64 0, .int .i64 0, .int .i64 0, .slice none 0 0, .int .i64 0, .int .i64 0, .int .i64 0, .int .i64 0, .int .i64 0, .int .i64 0, .int .i64 0, .int .i64 0] 41)) := hV
  have bV : Below w.heap.size w V := by rw [hV]; exact ((Below.refl _ _).alloc (Nat.le_refl _) _).alloc (by simp) _
  have KV := hidL bV
  have SZ := hidL (show w.heap.size + 2 ≤ V.heap.size by rw [hV]; simp)
  have F1 := hidL (show At w.heap.size (w.heap.size + 1) (Bx w.heap.size [.int .i64 cb, .int .i64 cg, .int .i64 co, .int .i64 cn, .int .i64 ce, .int .i64 cf, .int .i64 ct, .int .i64 cc, .slice na ns.length nc, .int .i64 ls, .int .i64 lc, .int .i64 lt, .int .i64 r1, .int .i64 r2, .int .i64 r3, .int .i64 r4, .int .i64 r5]) V by rw [hV]; exact (Bx.new _ [.int .i64 cb, .int .i64 cg, .int .i64 co, .int .i64 cn, .int .i64 ce, .int .i64 cf, .int .i64 ct, .int .i64 cc, .slice na ns.length nc, .int .i64 ls, .int .i64 lc, .int .i64 lt, .int .i64 r1, .int .i64 r2, .int .i64 r3, .int .i64 r4, .int .i64 r5] _).al _)
  have FZ := hidL (show At (w.heap.size + 1) (w.heap.size + 1 + 1) (Bx (w.heap.size + 1) [.int .i64 0, .int .i64 0, .int .i64 0, .int .i64 0, .int .i64 0, .int .i64 0, .int .i64 0, .int .i64 0, .slice none 0 0, .int .i64 0, .int .i64 0, .int .i64 0, .int .i64 0, .int .i64 0, .int .i64 0, .int .i64 0, .int .i64 0]) V by rw [hV]; exact Bx.newAt (by simp) [.int .i64 0, .int .i64 0, .int .i64 0, .int .i64 0, .int .i64 0, .int .i64 0, .int .i64 0, .int .i64 0, .slice none 0 0, .int .i64 0, .int .i64 0, .int .i64 0, .int .i64 0, .int .i64 0, .int .i64 0, .int .i64 0, .int .i64 0] _)
  have CT : Hid (Calls Tryz.prog 127 #[.slice na ns.length nc] V fun e w' => (∃ v, e = .returned v ∧ RowT w' V.heap.size v ns) ∧ Below V.heap.size V w') := textsAnew_any V na nc ns hl hz (hi.keep bV)
  clear hV bV hi hl hz
  obtain ⟨n, hn⟩ : ∃ n, ns.length = n := ⟨_, rfl⟩
  have HN : Hid (ns.length = n) := hn
  rw [hn] at HV F1 CT ⊢
  clear hn
  go_enter Tryz.func60, Tryz.ntmps60
  go_upto_region 1 with fail
  rw [← HV.out]
  clear HV
  have q8 := F1.out.val.1 8 _ rfl
  go_wp2_with fail
  refine CT.out.mono ?_
  rintro e0 w1 ⟨⟨v, rfl, ho⟩, hb⟩
  obtain ⟨va, vc, rfl, _, _⟩ := ho.in
  rw [HN.out] at ho ⊢
  have K1 := hidL (KV.out.trans (hb.mono KV.out.size))
  have HH := hidL ho
  replace FZ := hidL (FZ.out.keep hb)
  replace F1 := hidL (F1.out.keep hb)
  clear hb ho q8 CT
  have f8 := F1.out.val.1 8 _ rfl
  have g8 := F1.out.val.2 8
  obtain ⟨U, hU⟩ : ∃ U, U = w1.setCell ⟨w.heap.size, 8, none⟩ (.slice va n vc) := ⟨_, rfl⟩
  have HU : Hid (U = w1.setCell ⟨w.heap.size, 8, none⟩ (.slice va n vc)) := hU
  have s0 := SZ.out
  have KU := hidL (show Below w.heap.size w U by rw [hU]; exact K1.out.setCell (by simp only; omega) _)
  have FZ2 := hidL (show At (w.heap.size + 1) (w.heap.size + 1 + 1) (Bx (w.heap.size + 1) [.int .i64 0, .int .i64 0, .int .i64 0, .int .i64 0, .int .i64 0, .int .i64 0, .int .i64 0, .int .i64 0, .slice none 0 0, .int .i64 0, .int .i64 0, .int .i64 0, .int .i64 0, .int .i64 0, .int .i64 0, .int .i64 0, .int .i64 0]) U by rw [hU]; exact FZ.out.set _ (by omega))
  have FB2 := hidL (show At (w.heap.size) (w.heap.size + 1) (Bx (w.heap.size) [.int .i64 cb, .int .i64 cg, .int .i64 co, .int .i64 cn, .int .i64 ce, .int .i64 cf, .int .i64 ct, .int .i64 cc, .slice va n vc, .int .i64 ls, .int .i64 lc, .int .i64 lt, .int .i64 r1, .int .i64 r2, .int .i64 r3, .int .i64 r4, .int .i64 r5]) U by rw [hU]; exact Bx.put F1.out 8 _ (by simp))
  have RT := hidL (show At V.heap.size w1.heap.size (TL (.slice va n vc) ns) U by rw [hU]; exact (RowT.at HH.out).set _ (by omega))
  have sU : U.heap.size = w1.heap.size := by rw [hU]; simp
  clear hU
  go_upto_region 2 with fail
  rw [← HU.out]
  clear HU f8 g8 F1 FZ K1 HH
  refine wp_copyOut (b1 := w.heap.size) (b2 := w.heap.size + 1) (vs := [.int .i64 cb, .int .i64 cg, .int .i64 co, .int .i64 cn, .int .i64 ce, .int .i64 cf, .int .i64 ct, .int .i64 cc, .slice va n vc, .int .i64 ls, .int .i64 lc, .int .i64 lt, .int .i64 r1, .int .i64 r2, .int .i64 r3, .int .i64 r4, .int .i64 r5]) (zs := [.int .i64 0, .int .i64 0, .int .i64 0, .int .i64 0, .int .i64 0, .int .i64 0, .int .i64 0, .int .i64 0, .slice none 0 0, .int .i64 0, .int .i64 0, .int .i64 0, .int .i64 0, .int .i64 0, .int .i64 0, .int .i64 0, .int .i64 0]) Tryz.underlying41 cfgI_size rfl (fun _ => rfl) (fun _ => rfl) FB2.out.val.1 FZ2.out.val.1 FZ2.out.val.2 rfl rfl ?_
  obtain ⟨VF, hVF⟩ : ∃ V, V = putAll U (w.heap.size + 1) 0 [.int .i64 cb, .int .i64 cg, .int .i64 co, .int .i64 cn, .int .i64 ce, .int .i64 cf, .int .i64 ct, .int .i64 cc, .slice va n vc, .int .i64 ls, .int .i64 lc, .int .i64 lt, .int .i64 r1, .int .i64 r2, .int .i64 r3, .int .i64 r4, .int .i64 r5] := ⟨_, rfl⟩
  rw [← hVF]
  have R : At (w.heap.size + 1) (w.heap.size + 1 + 1) (Bx (w.heap.size + 1) [.int .i64 cb, .int .i64 cg, .int .i64 co, .int .i64 cn, .int .i64 ce, .int .i64 cf, .int .i64 ct, .int .i64 cc, .slice va n vc, .int .i64 ls, .int .i64 lc, .int .i64 lt, .int .i64 r1, .int .i64 r2, .int .i64 r3, .int .i64 r4, .int .i64 r5]) VF := by rw [hVF]; exact Bx.putAll FZ2.out [.int .i64 cb, .int .i64 cg, .int .i64 co, .int .i64 cn, .int .i64 ce, .int .i64 cf, .int .i64 ct, .int .i64 cc, .slice va n vc, .int .i64 ls, .int .i64 lc, .int .i64 lt, .int .i64 r1, .int .i64 r2, .int .i64 r3, .int .i64 r4, .int .i64 r5] rfl
  have KF : Below w.heap.size w VF := by rw [hVF]; exact below_putAll (by omega) [.int .i64 cb, .int .i64 cg, .int .i64 co, .int .i64 cn, .int .i64 ce, .int .i64 cf, .int .i64 ct, .int .i64 cc, .slice va n vc, .int .i64 ls, .int .i64 lc, .int .i64 lt, .int .i64 r1, .int .i64 r2, .int .i64 r3, .int .i64 r4, .int .i64 r5] 0 KU.out
  have E1 : At V.heap.size w1.heap.size (TL (.slice va n vc) ns) VF := by rw [hVF]; exact At.putAll (by omega) [.int .i64 cb, .int .i64 cg, .int .i64 co, .int .i64 cn, .int .i64 ce, .int .i64 cf, .int .i64 ct, .int .i64 cc, .slice va n vc, .int .i64 ls, .int .i64 lc, .int .i64 lt, .int .i64 r1, .int .i64 r2, .int .i64 r3, .int .i64 r4, .int .i64 r5] 0 RT.out
  have hn := HN.out
  have z1 := E1.le
  have z2 := KV.out.size
  have ER := hidL (show At w.heap.size VF.heap.size (NL ns va n vc) VF from ⟨Nat.le_refl _, NL.dep _ _ _ _ _ _, hn.symm, E1.val.wide (by omega) (by omega)⟩)
  clear hVF FB2 FZ2 KU RT sU hn z1 z2 E1
  go_wp2_with fail
  have rz0 := R.val.1 0 _ rfl
  have rz1 := R.val.1 1 _ rfl
  have rz2 := R.val.1 2 _ rfl
  have rz3 := R.val.1 3 _ rfl
  have rz4 := R.val.1 4 _ rfl
  have rz5 := R.val.1 5 _ rfl
  have rz6 := R.val.1 6 _ rfl
  have rz7 := R.val.1 7 _ rfl
  have rz8 := R.val.1 8 _ rfl
  have rz9 := R.val.1 9 _ rfl
  have rz10 := R.val.1 10 _ rfl
  have rz11 := R.val.1 11 _ rfl
  have rz12 := R.val.1 12 _ rfl
  have rz13 := R.val.1 13 _ rfl
  have rz14 := R.val.1 14 _ rfl
  have rz15 := R.val.1 15 _ rfl
  have rz16 := R.val.1 16 _ rfl
  refine bodyPost_ret (v := .agg #[.int .i64 cb, .int .i64 cg, .int .i64 co, .int .i64 cn, .int .i64 ce, .int .i64 cf, .int .i64 ct, .int .i64 cc, .slice va n vc, .int .i64 ls, .int .i64 lc, .int .i64 lt, .int .i64 r1, .int .i64 r2, .int .i64 r3, .int .i64 r4, .int .i64 r5]) ?_ rfl ⟨⟨va, vc, rfl, ER.out⟩, KF⟩
  simp [results, Tryz.results60, go_sem, rz0, rz1, rz2, rz3, rz4, rz5, rz6, rz7, rz8, rz9, rz10, rz11, rz12, rz13, rz14, rz15, rz16]
end Go.Proofs.YtlbagfaiiileoaaGreatDoor
/-
  The law of NewShield, over contracts.
-/
namespace Go.Proofs.YtlbagfaiiileoaaGreatDoor
open Go.ChangeShapes Go.WideShapes Go.ChangeAt Go.RowKit
set_option linter.unusedSimpArgs false in
set_option maxRecDepth 100000 in
set_option maxHeartbeats 32000000 in
theorem walk_NewSh (w : World) (cb cg co cn ce cf ct cc : Int) (na : Option Addr) (nn nc : Nat) (ls lc lt r1 r2 r3 r4 r5 : Int) (rc jcb jcg jco jcn jce jcf jct jcc jls jlc jlt jr1 jr2 jr3 jr4 jr5 sb sg : Int) (z1 : Int) (CA1 : Nat → Nat → Nat → World → Prop) (CR MR : Option Addr → Nat → Nat → Nat → Nat → World → Prop) (k1 q : Int) (HZ1 : Hid (∀ X, Below w.heap.size w X → Calls Tryz.prog 13 #[.agg #[.int .i64 cb, .int .i64 cg, .int .i64 co, .int .i64 cn, .int .i64 ce, .int .i64 cf, .int .i64 ct, .int .i64 cc, .slice na nn nc, .int .i64 ls, .int .i64 lc, .int .i64 lt, .int .i64 r1, .int .i64 r2, .int .i64 r3, .int .i64 r4, .int .i64 r5], .int .i64 1048576] X fun e w' => e = .returned (.int .i64 z1) ∧ Below X.heap.size X w'))
    (HT1 : Hid (¬ z1 < 0 → ∀ X, Below w.heap.size w X → Calls Tryz.prog 15 #[.agg #[.int .i64 cb, .int .i64 cg, .int .i64 co, .int .i64 cn, .int .i64 ce, .int .i64 cf, .int .i64 ct, .int .i64 cc, .slice na nn nc, .int .i64 ls, .int .i64 lc, .int .i64 lt, .int .i64 r1, .int .i64 r2, .int .i64 r3, .int .i64 r4, .int .i64 r5]] X fun e w' => (∃ (G1 : Nat), e = .returned (.agg #[.int .i64 cb, .int .i64 cg, .int .i64 co, .int .i64 cn, .int .i64 ce, .int .i64 cf, .int .i64 ct, .int .i64 cc, .slice (some ⟨G1, 0, none⟩) nn nn, .int .i64 ls, .int .i64 lc, .int .i64 lt, .int .i64 r1, .int .i64 r2, .int .i64 r3, .int .i64 r4, .int .i64 r5]) ∧ At X.heap.size w'.heap.size (CA1 G1) w') ∧ Below X.heap.size X w'))
    (HQ1 : Hid (¬ z1 < 0 → ∀ X la ha lb hb (G1x : Nat) (G1y : Nat), At la ha (CA1 G1x) X → At lb hb (CA1 G1y) X → Calls Tryz.prog 18 #[.agg #[.int .i64 cb, .int .i64 cg, .int .i64 co, .int .i64 cn, .int .i64 ce, .int .i64 cf, .int .i64 ct, .int .i64 cc, .slice (some ⟨G1x, 0, none⟩) nn nn, .int .i64 ls, .int .i64 lc, .int .i64 lt, .int .i64 r1, .int .i64 r2, .int .i64 r3, .int .i64 r4, .int .i64 r5], .agg #[.int .i64 cb, .int .i64 cg, .int .i64 co, .int .i64 cn, .int .i64 ce, .int .i64 cf, .int .i64 ct, .int .i64 cc, .slice (some ⟨G1y, 0, none⟩) nn nn, .int .i64 ls, .int .i64 lc, .int .i64 lt, .int .i64 r1, .int .i64 r2, .int .i64 r3, .int .i64 r4, .int .i64 r5]] X fun e w' => e = .returned (.bool true) ∧ Below X.heap.size X w'))
    (HM1 : Hid (¬ z1 < 0 → ∀ X l h (G1 : Nat), At l h (CA1 G1) X → w.heap.size ≤ l → Calls Tryz.prog 19 #[.agg #[.int .i64 cb, .int .i64 cg, .int .i64 co, .int .i64 cn, .int .i64 ce, .int .i64 cf, .int .i64 ct, .int .i64 cc, .slice (some ⟨G1, 0, none⟩) nn nn, .int .i64 ls, .int .i64 lc, .int .i64 lt, .int .i64 r1, .int .i64 r2, .int .i64 r3, .int .i64 r4, .int .i64 r5], .int .i64 1] X fun e w' => e = .returned (.int .i64 k1) ∧ Wi l h X w' ∧ Below w.heap.size X w'))
    (HF : Hid (¬ z1 < 0 → ∀ X l1 h1 (G1 : Nat), Below w.heap.size w X → At l1 h1 (CA1 G1) X → Calls Tryz.prog 14 #[.agg #[.int .i64 cb, .int .i64 cg, .int .i64 co, .int .i64 cn, .int .i64 ce, .int .i64 cf, .int .i64 ct, .int .i64 cc, .slice (some ⟨G1, 0, none⟩) nn nn, .int .i64 ls, .int .i64 lc, .int .i64 lt, .int .i64 r1, .int .i64 r2, .int .i64 r3, .int .i64 r4, .int .i64 r5]] X fun e w' => (∃ (rar : Option Addr) (rnr : Nat) (rkr : Nat), e = .returned (.agg #[.int .i64 rc, .int .i64 jcb, .int .i64 jcg, .int .i64 jco, .int .i64 jcn, .int .i64 jce, .int .i64 jcf, .int .i64 jct, .int .i64 jcc, .slice rar rnr rkr, .int .i64 jls, .int .i64 jlc, .int .i64 jlt, .int .i64 jr1, .int .i64 jr2, .int .i64 jr3, .int .i64 jr4, .int .i64 jr5, .int .i64 0, .int .i64 0, .int .i64 sb, .int .i64 sg, .slice none 0 0, .slice none 0 0, .slice none 0 0, .slice none 0 0]) ∧ At X.heap.size w'.heap.size (CR rar rnr rkr) w') ∧ Below X.heap.size X w'))
    (HG : Hid (¬ z1 < 0 → ∀ X l1 h1 (G1 : Nat), Below w.heap.size w X → At l1 h1 (CA1 G1) X → Calls Tryz.prog 16 #[.agg #[.int .i64 cb, .int .i64 cg, .int .i64 co, .int .i64 cn, .int .i64 ce, .int .i64 cf, .int .i64 ct, .int .i64 cc, .slice (some ⟨G1, 0, none⟩) nn nn, .int .i64 ls, .int .i64 lc, .int .i64 lt, .int .i64 r1, .int .i64 r2, .int .i64 r3, .int .i64 r4, .int .i64 r5]] X fun e w' => (∃ (rar : Option Addr) (rnr : Nat) (rkr : Nat), e = .returned (.agg #[.int .i64 rc, .int .i64 jcb, .int .i64 jcg, .int .i64 jco, .int .i64 jcn, .int .i64 jce, .int .i64 jcf, .int .i64 jct, .int .i64 jcc, .slice rar rnr rkr, .int .i64 jls, .int .i64 jlc, .int .i64 jlt, .int .i64 jr1, .int .i64 jr2, .int .i64 jr3, .int .i64 jr4, .int .i64 jr5, .int .i64 0, .int .i64 0, .int .i64 sb, .int .i64 sg, .slice none 0 0, .slice none 0 0, .slice none 0 0, .slice none 0 0]) ∧ At X.heap.size w'.heap.size (CR rar rnr rkr) w') ∧ Below X.heap.size X w'))
    (HEQ : Hid (¬ z1 < 0 → ∀ X la ha lb hb (rax : Option Addr) (rnx : Nat) (rkx : Nat) (ray : Option Addr) (rny : Nat) (rky : Nat), At la ha (CR rax rnx rkx) X → At lb hb (CR ray rny rky) X → Calls Tryz.prog 17 #[.agg #[.int .i64 rc, .int .i64 jcb, .int .i64 jcg, .int .i64 jco, .int .i64 jcn, .int .i64 jce, .int .i64 jcf, .int .i64 jct, .int .i64 jcc, .slice rax rnx rkx, .int .i64 jls, .int .i64 jlc, .int .i64 jlt, .int .i64 jr1, .int .i64 jr2, .int .i64 jr3, .int .i64 jr4, .int .i64 jr5, .int .i64 0, .int .i64 0, .int .i64 sb, .int .i64 sg, .slice none 0 0, .slice none 0 0, .slice none 0 0, .slice none 0 0], .agg #[.int .i64 rc, .int .i64 jcb, .int .i64 jcg, .int .i64 jco, .int .i64 jcn, .int .i64 jce, .int .i64 jcf, .int .i64 jct, .int .i64 jcc, .slice ray rny rky, .int .i64 jls, .int .i64 jlc, .int .i64 jlt, .int .i64 jr1, .int .i64 jr2, .int .i64 jr3, .int .i64 jr4, .int .i64 jr5, .int .i64 0, .int .i64 0, .int .i64 sb, .int .i64 sg, .slice none 0 0, .slice none 0 0, .slice none 0 0, .slice none 0 0]] X fun e w' => e = .returned (.bool true) ∧ Below X.heap.size X w'))
    (HMR : Hid (¬ z1 < 0 → ∀ X l h (rar : Option Addr) (rnr : Nat) (rkr : Nat), Below w.heap.size w X → At l h (CR rar rnr rkr) X → w.heap.size ≤ l → Calls Tryz.prog 20 #[.agg #[.int .i64 rc, .int .i64 jcb, .int .i64 jcg, .int .i64 jco, .int .i64 jcn, .int .i64 jce, .int .i64 jcf, .int .i64 jct, .int .i64 jcc, .slice rar rnr rkr, .int .i64 jls, .int .i64 jlc, .int .i64 jlt, .int .i64 jr1, .int .i64 jr2, .int .i64 jr3, .int .i64 jr4, .int .i64 jr5, .int .i64 0, .int .i64 0, .int .i64 sb, .int .i64 sg, .slice none 0 0, .slice none 0 0, .slice none 0 0, .slice none 0 0], .int .i64 1] X fun e w' => e = .returned (.int .i64 q) ∧ At l h (MR rar rnr rkr) w' ∧ Wi l h X w' ∧ Below w.heap.size X w'))
    (HHR : Hid (¬ z1 < 0 → ∀ X l h (rar : Option Addr) (rnr : Nat) (rkr : Nat), At l h (MR rar rnr rkr) X → Calls Tryz.prog 21 #[.agg #[.int .i64 rc, .int .i64 jcb, .int .i64 jcg, .int .i64 jco, .int .i64 jcn, .int .i64 jce, .int .i64 jcf, .int .i64 jct, .int .i64 jcc, .slice rar rnr rkr, .int .i64 jls, .int .i64 jlc, .int .i64 jlt, .int .i64 jr1, .int .i64 jr2, .int .i64 jr3, .int .i64 jr4, .int .i64 jr5, .int .i64 0, .int .i64 0, .int .i64 sb, .int .i64 sg, .slice none 0 0, .slice none 0 0, .slice none 0 0, .slice none 0 0], .int .i64 1] X fun e w' => e = .returned (.int .i64 q) ∧ Below X.heap.size X w'))
    (hk0 : ¬ k1 < 0) (hq0 : ¬ q < 0) :
    Calls Tryz.prog 4 #[.agg #[.int .i64 cb, .int .i64 cg, .int .i64 co, .int .i64 cn, .int .i64 ce, .int .i64 cf, .int .i64 ct, .int .i64 cc, .slice na nn nc, .int .i64 ls, .int .i64 lc, .int .i64 lt, .int .i64 r1, .int .i64 r2, .int .i64 r3, .int .i64 r4, .int .i64 r5]] w fun e w' => e = .returned (.bool true) ∧ Below w.heap.size w w' := by
  obtain ⟨W, hW⟩ : ∃ W, W = (w.alloc (.cells #[.int .i64 cb, .int .i64 cg, .int .i64 co, .int .i64 cn, .int .i64 ce, .int .i64 cf, .int .i64 ct, .int .i64 cc, .slice na nn nc, .int .i64 ls, .int .i64 lc, .int .i64 lt, .int .i64 r1, .int .i64 r2, .int .i64 r3, .int .i64 r4, .int .i64 r5] 28)) := ⟨_, rfl⟩
  have HW : Hid (W = (w.alloc (.cells #[.int .i64 cb, .int .i64 cg, .int .i64 co, .int .i64 cn, .int .i64 ce, .int .i64 cf, .int .i64 ct, .int .i64 cc, .slice na nn nc, .int .i64 ls, .int .i64 lc, .int .i64 lt, .int .i64 r1, .int .i64 r2, .int .i64 r3, .int .i64 r4, .int .i64 r5] 28))) := hW
  have KW : Hid (Below w.heap.size w W) := by rw [hW]; exact ((Below.refl _ _).alloc (Nat.le_refl _) _)
  have SW : Hid (w.heap.size + 1 ≤ W.heap.size) := by rw [hW]; show _ ≤ _; simp
  have FA1_0 : Hid (At w.heap.size (w.heap.size + 1) (Bx w.heap.size [.int .i64 cb, .int .i64 cg, .int .i64 co, .int .i64 cn, .int .i64 ce, .int .i64 cf, .int .i64 ct, .int .i64 cc, .slice na nn nc, .int .i64 ls, .int .i64 lc, .int .i64 lt, .int .i64 r1, .int .i64 r2, .int .i64 r3, .int .i64 r4, .int .i64 r5]) W) := by rw [hW]; exact Bx.newAt rfl [.int .i64 cb, .int .i64 cg, .int .i64 co, .int .i64 cn, .int .i64 ce, .int .i64 cf, .int .i64 ct, .int .i64 cc, .slice na nn nc, .int .i64 ls, .int .i64 lc, .int .i64 lt, .int .i64 r1, .int .i64 r2, .int .i64 r3, .int .i64 r4, .int .i64 r5] _
  clear hW
  go_enter Tryz.func4, Tryz.ntmps4
  go_upto_region 2 with fail
  rw [← HW.out]
  clear HW
  have LFA1_0 := hidL FA1_0.out.val.1
  go_wp2_with (first | ((with_reducible refine cfgL_load (b := w.heap.size) (vs := [.int .i64 cb, .int .i64 cg, .int .i64 co, .int .i64 cn, .int .i64 ce, .int .i64 cf, .int .i64 ct, .int .i64 cc, .slice na nn nc, .int .i64 ls, .int .i64 lc, .int .i64 lt, .int .i64 r1, .int .i64 r2, .int .i64 r3, .int .i64 r4, .int .i64 r5]) ?_ ?_ LFA1_0.out ?_); exact rfl; exact rfl))
  clear LFA1_0
  refine (HZ1.out  _ KW.out).mono ?_
  rintro e0 w1 ⟨rfl, hb⟩
  have K2 : Hid (Below w.heap.size w w1) := KW.out.trans (hb.mono KW.out.size)
  have F3 : Hid (At w.heap.size (w.heap.size + 1) (Bx w.heap.size [.int .i64 cb, .int .i64 cg, .int .i64 co, .int .i64 cn, .int .i64 ce, .int .i64 cf, .int .i64 ct, .int .i64 cc, .slice na nn nc, .int .i64 ls, .int .i64 lc, .int .i64 lt, .int .i64 r1, .int .i64 r2, .int .i64 r3, .int .i64 r4, .int .i64 r5]) w1) := FA1_0.out.keep hb
  clear KW FA1_0 hb
  clear HZ1
  by_cases cz1 : z1 < 0
  · clear HT1 HQ1 HM1 HF HG HEQ HMR HHR F3 SW
    go_wp2_with fail
    go_ret
    exact ⟨rfl, K2.out⟩
  replace HT1 := hidL (HT1.out (by omega))
  replace HQ1 := hidL (HQ1.out (by omega))
  replace HM1 := hidL (HM1.out (by omega))
  replace HF := hidL (HF.out (by omega))
  replace HG := hidL (HG.out (by omega))
  replace HEQ := hidL (HEQ.out (by omega))
  replace HMR := hidL (HMR.out (by omega))
  replace HHR := hidL (HHR.out (by omega))
  have LF3 := hidL F3.out.val.1
  go_wp2_with (first | ((with_reducible refine cfgL_load (b := w.heap.size) (vs := [.int .i64 cb, .int .i64 cg, .int .i64 co, .int .i64 cn, .int .i64 ce, .int .i64 cf, .int .i64 ct, .int .i64 cc, .slice na nn nc, .int .i64 ls, .int .i64 lc, .int .i64 lt, .int .i64 r1, .int .i64 r2, .int .i64 r3, .int .i64 r4, .int .i64 r5]) ?_ ?_ LF3.out ?_); exact rfl; exact rfl))
  clear LF3
  refine (HT1.out _ K2.out).mono ?_
  rintro e0 w4 ⟨⟨G1s, rfl, ca⟩, hb⟩
  have K5 : Hid (Below w.heap.size w w4) := K2.out.trans (hb.mono K2.out.size)
  have F6 : Hid (At w.heap.size (w.heap.size + 1) (Bx w.heap.size [.int .i64 cb, .int .i64 cg, .int .i64 co, .int .i64 cn, .int .i64 ce, .int .i64 cf, .int .i64 ct, .int .i64 cc, .slice na nn nc, .int .i64 ls, .int .i64 lc, .int .i64 lt, .int .i64 r1, .int .i64 r2, .int .i64 r3, .int .i64 r4, .int .i64 r5]) w4) := F3.out.keep hb
  clear K2 F3 hb
  have CA_s : Hid (At w1.heap.size w4.heap.size (CA1 G1s) w4) := ca
  clear ca
  go_wp2_with fail
  refine (HF.out _ _ _ _ K5.out CA_s.out).mono ?_
  rintro e0 w7 ⟨⟨ras, rns, rks, rfl, cr⟩, hb⟩
  have K8 : Hid (Below w.heap.size w w7) := K5.out.trans (hb.mono K5.out.size)
  have F9 : Hid (At w.heap.size (w.heap.size + 1) (Bx w.heap.size [.int .i64 cb, .int .i64 cg, .int .i64 co, .int .i64 cn, .int .i64 ce, .int .i64 cf, .int .i64 ct, .int .i64 cc, .slice na nn nc, .int .i64 ls, .int .i64 lc, .int .i64 lt, .int .i64 r1, .int .i64 r2, .int .i64 r3, .int .i64 r4, .int .i64 r5]) w7) := F6.out.keep hb
  clear K5 F6 hb
  clear CA_s
  obtain ⟨l11, hl11⟩ : ∃ n, w4.heap.size = n := ⟨_, rfl⟩
  obtain ⟨h12, hh12⟩ : ∃ n, w7.heap.size = n := ⟨_, rfl⟩
  have F10 : Hid (At l11 h12 (CR ras rns rks) w7) := by rw [← hl11, ← hh12]; exact cr
  clear cr hl11 hh12
  obtain ⟨V14, hV14⟩ : ∃ V, V = w7.alloc (.cells #[.int .i64 rc, .int .i64 jcb, .int .i64 jcg, .int .i64 jco, .int .i64 jcn, .int .i64 jce, .int .i64 jcf, .int .i64 jct, .int .i64 jcc, .slice ras rns rks, .int .i64 jls, .int .i64 jlc, .int .i64 jlt, .int .i64 jr1, .int .i64 jr2, .int .i64 jr3, .int .i64 jr4, .int .i64 jr5, .int .i64 0, .int .i64 0, .int .i64 sb, .int .i64 sg, .slice none 0 0, .slice none 0 0, .slice none 0 0, .slice none 0 0] 54) := ⟨_, rfl⟩
  have HV14 : Hid (V14 = w7.alloc (.cells #[.int .i64 rc, .int .i64 jcb, .int .i64 jcg, .int .i64 jco, .int .i64 jcn, .int .i64 jce, .int .i64 jcf, .int .i64 jct, .int .i64 jcc, .slice ras rns rks, .int .i64 jls, .int .i64 jlc, .int .i64 jlt, .int .i64 jr1, .int .i64 jr2, .int .i64 jr3, .int .i64 jr4, .int .i64 jr5, .int .i64 0, .int .i64 0, .int .i64 sb, .int .i64 sg, .slice none 0 0, .slice none 0 0, .slice none 0 0, .slice none 0 0] 54)) := hV14
  have ab : Below w7.heap.size w7 V14 := by rw [hV14]; exact (Below.refl _ _).alloc (Nat.le_refl _) _
  have F15 : Hid (At w7.heap.size (w7.heap.size + 1) (Bx w7.heap.size [.int .i64 rc, .int .i64 jcb, .int .i64 jcg, .int .i64 jco, .int .i64 jcn, .int .i64 jce, .int .i64 jcf, .int .i64 jct, .int .i64 jcc, .slice ras rns rks, .int .i64 jls, .int .i64 jlc, .int .i64 jlt, .int .i64 jr1, .int .i64 jr2, .int .i64 jr3, .int .i64 jr4, .int .i64 jr5, .int .i64 0, .int .i64 0, .int .i64 sb, .int .i64 sg, .slice none 0 0, .slice none 0 0, .slice none 0 0, .slice none 0 0]) V14) := by rw [hV14]; exact Bx.new _ _ _
  have O16 : Hid ((w.heap.size + 1) ≤ w7.heap.size ∧ h12 ≤ w7.heap.size ∧ w.heap.size ≤ w7.heap.size) := ⟨F9.out.le, F10.out.le, K8.out.size⟩
  have K17 : Hid (Below w.heap.size w V14) := K8.out.trans (ab.mono K8.out.size)
  have F18 : Hid (At w.heap.size (w.heap.size + 1) (Bx w.heap.size [.int .i64 cb, .int .i64 cg, .int .i64 co, .int .i64 cn, .int .i64 ce, .int .i64 cf, .int .i64 ct, .int .i64 cc, .slice na nn nc, .int .i64 ls, .int .i64 lc, .int .i64 lt, .int .i64 r1, .int .i64 r2, .int .i64 r3, .int .i64 r4, .int .i64 r5]) V14) := F9.out.keep ab
  have F19 : Hid (At l11 h12 (CR ras rns rks) V14) := F10.out.keep ab
  clear K8 F9 F10
  clear ab hV14
  have LF18 := hidL F18.out.val.1
  have LF15 := hidL F15.out.val.1
  go_upto_region 6 with (first | ((with_reducible refine cfgL_load (b := w.heap.size) (vs := [.int .i64 cb, .int .i64 cg, .int .i64 co, .int .i64 cn, .int .i64 ce, .int .i64 cf, .int .i64 ct, .int .i64 cc, .slice na nn nc, .int .i64 ls, .int .i64 lc, .int .i64 lt, .int .i64 r1, .int .i64 r2, .int .i64 r3, .int .i64 r4, .int .i64 r5]) ?_ ?_ LF18.out ?_); exact rfl; exact rfl) | ((with_reducible refine shR_load (b := w7.heap.size) (vs := [.int .i64 rc, .int .i64 jcb, .int .i64 jcg, .int .i64 jco, .int .i64 jcn, .int .i64 jce, .int .i64 jcf, .int .i64 jct, .int .i64 jcc, .slice ras rns rks, .int .i64 jls, .int .i64 jlc, .int .i64 jlt, .int .i64 jr1, .int .i64 jr2, .int .i64 jr3, .int .i64 jr4, .int .i64 jr5, .int .i64 0, .int .i64 0, .int .i64 sb, .int .i64 sg, .slice none 0 0, .slice none 0 0, .slice none 0 0, .slice none 0 0]) ?_ ?_ LF15.out ?_); exact rfl; exact rfl) | ((with_reducible refine shR_store (c' := #[.int .i64 rc, .int .i64 jcb, .int .i64 jcg, .int .i64 jco, .int .i64 jcn, .int .i64 jce, .int .i64 jcf, .int .i64 jct, .int .i64 jcc, .slice ras rns rks, .int .i64 jls, .int .i64 jlc, .int .i64 jlt, .int .i64 jr1, .int .i64 jr2, .int .i64 jr3, .int .i64 jr4, .int .i64 jr5, .int .i64 0, .int .i64 0, .int .i64 sb, .int .i64 sg, .slice none 0 0, .slice none 0 0, .slice none 0 0, .slice none 0 0]) ?_ ?_ ?_ ?_ ?_ ?_); exact rfl; exact rfl; exact rfl; exact rfl; exact rfl))
  clear LF18 LF15
  rw [← HV14.out]
  clear HV14
  generalize w7.heap.size = x20 at *
  clear HF
  have LF18 := hidL F18.out.val.1
  have LF15 := hidL F15.out.val.1
  go_wp2_with (first | ((with_reducible refine cfgL_load (b := w.heap.size) (vs := [.int .i64 cb, .int .i64 cg, .int .i64 co, .int .i64 cn, .int .i64 ce, .int .i64 cf, .int .i64 ct, .int .i64 cc, .slice na nn nc, .int .i64 ls, .int .i64 lc, .int .i64 lt, .int .i64 r1, .int .i64 r2, .int .i64 r3, .int .i64 r4, .int .i64 r5]) ?_ ?_ LF18.out ?_); exact rfl; exact rfl) | ((with_reducible refine shR_load (b := x20) (vs := [.int .i64 rc, .int .i64 jcb, .int .i64 jcg, .int .i64 jco, .int .i64 jcn, .int .i64 jce, .int .i64 jcf, .int .i64 jct, .int .i64 jcc, .slice ras rns rks, .int .i64 jls, .int .i64 jlc, .int .i64 jlt, .int .i64 jr1, .int .i64 jr2, .int .i64 jr3, .int .i64 jr4, .int .i64 jr5, .int .i64 0, .int .i64 0, .int .i64 sb, .int .i64 sg, .slice none 0 0, .slice none 0 0, .slice none 0 0, .slice none 0 0]) ?_ ?_ LF15.out ?_); exact rfl; exact rfl))
  clear LF18 LF15
  refine (HT1.out _ K17.out).mono ?_
  rintro e0 w21 ⟨⟨G1x1, rfl, ca⟩, hb⟩
  obtain ⟨l22, hl22⟩ : ∃ n, V14.heap.size = n := ⟨_, rfl⟩
  obtain ⟨h23, hh23⟩ : ∃ n, w21.heap.size = n := ⟨_, rfl⟩
  have O24 : Hid ((w.heap.size + 1) ≤ l22 ∧ h12 ≤ l22 ∧ (x20 + 1) ≤ l22 ∧ w.heap.size ≤ l22 ∧ l22 ≤ h23) := ⟨(by rw [← hl22]; exact F18.out.le), (by rw [← hl22]; exact F19.out.le), (by rw [← hl22]; exact F15.out.le), (by rw [← hl22]; exact K17.out.size), (by rw [← hl22, ← hh23]; exact hb.size)⟩
  have F25 : Hid (At l22 h23 (CA1 G1x1) w21) := by rw [← hl22, ← hh23]; exact ca
  clear ca hl22 hh23
  have K26 : Hid (Below w.heap.size w w21) := K17.out.trans (hb.mono K17.out.size)
  have F27 : Hid (At w.heap.size (w.heap.size + 1) (Bx w.heap.size [.int .i64 cb, .int .i64 cg, .int .i64 co, .int .i64 cn, .int .i64 ce, .int .i64 cf, .int .i64 ct, .int .i64 cc, .slice na nn nc, .int .i64 ls, .int .i64 lc, .int .i64 lt, .int .i64 r1, .int .i64 r2, .int .i64 r3, .int .i64 r4, .int .i64 r5]) w21) := F18.out.keep hb
  have F28 : Hid (At l11 h12 (CR ras rns rks) w21) := F19.out.keep hb
  have F29 : Hid (At x20 (x20 + 1) (Bx x20 [.int .i64 rc, .int .i64 jcb, .int .i64 jcg, .int .i64 jco, .int .i64 jcn, .int .i64 jce, .int .i64 jcf, .int .i64 jct, .int .i64 jcc, .slice ras rns rks, .int .i64 jls, .int .i64 jlc, .int .i64 jlt, .int .i64 jr1, .int .i64 jr2, .int .i64 jr3, .int .i64 jr4, .int .i64 jr5, .int .i64 0, .int .i64 0, .int .i64 sb, .int .i64 sg, .slice none 0 0, .slice none 0 0, .slice none 0 0, .slice none 0 0]) w21) := F15.out.keep hb
  clear K17 F18 F19 F15 hb
  obtain ⟨V30, hV30⟩ : ∃ V, V = w21.alloc (.cells #[.int .i64 cb, .int .i64 cg, .int .i64 co, .int .i64 cn, .int .i64 ce, .int .i64 cf, .int .i64 ct, .int .i64 cc, .slice (some ⟨G1x1, 0, none⟩) nn nn, .int .i64 ls, .int .i64 lc, .int .i64 lt, .int .i64 r1, .int .i64 r2, .int .i64 r3, .int .i64 r4, .int .i64 r5] 41) := ⟨_, rfl⟩
  have HV30 : Hid (V30 = w21.alloc (.cells #[.int .i64 cb, .int .i64 cg, .int .i64 co, .int .i64 cn, .int .i64 ce, .int .i64 cf, .int .i64 ct, .int .i64 cc, .slice (some ⟨G1x1, 0, none⟩) nn nn, .int .i64 ls, .int .i64 lc, .int .i64 lt, .int .i64 r1, .int .i64 r2, .int .i64 r3, .int .i64 r4, .int .i64 r5] 41)) := hV30
  have ab : Below w21.heap.size w21 V30 := by rw [hV30]; exact (Below.refl _ _).alloc (Nat.le_refl _) _
  have F31 : Hid (At w21.heap.size (w21.heap.size + 1) (Bx w21.heap.size [.int .i64 cb, .int .i64 cg, .int .i64 co, .int .i64 cn, .int .i64 ce, .int .i64 cf, .int .i64 ct, .int .i64 cc, .slice (some ⟨G1x1, 0, none⟩) nn nn, .int .i64 ls, .int .i64 lc, .int .i64 lt, .int .i64 r1, .int .i64 r2, .int .i64 r3, .int .i64 r4, .int .i64 r5]) V30) := by rw [hV30]; exact Bx.new _ _ _
  have O32 : Hid ((w.heap.size + 1) ≤ w21.heap.size ∧ h12 ≤ w21.heap.size ∧ (x20 + 1) ≤ w21.heap.size ∧ h23 ≤ w21.heap.size ∧ w.heap.size ≤ w21.heap.size) := ⟨F27.out.le, F28.out.le, F29.out.le, F25.out.le, K26.out.size⟩
  have K33 : Hid (Below w.heap.size w V30) := K26.out.trans (ab.mono K26.out.size)
  have F34 : Hid (At w.heap.size (w.heap.size + 1) (Bx w.heap.size [.int .i64 cb, .int .i64 cg, .int .i64 co, .int .i64 cn, .int .i64 ce, .int .i64 cf, .int .i64 ct, .int .i64 cc, .slice na nn nc, .int .i64 ls, .int .i64 lc, .int .i64 lt, .int .i64 r1, .int .i64 r2, .int .i64 r3, .int .i64 r4, .int .i64 r5]) V30) := F27.out.keep ab
  have F35 : Hid (At l11 h12 (CR ras rns rks) V30) := F28.out.keep ab
  have F36 : Hid (At x20 (x20 + 1) (Bx x20 [.int .i64 rc, .int .i64 jcb, .int .i64 jcg, .int .i64 jco, .int .i64 jcn, .int .i64 jce, .int .i64 jcf, .int .i64 jct, .int .i64 jcc, .slice ras rns rks, .int .i64 jls, .int .i64 jlc, .int .i64 jlt, .int .i64 jr1, .int .i64 jr2, .int .i64 jr3, .int .i64 jr4, .int .i64 jr5, .int .i64 0, .int .i64 0, .int .i64 sb, .int .i64 sg, .slice none 0 0, .slice none 0 0, .slice none 0 0, .slice none 0 0]) V30) := F29.out.keep ab
  have F37 : Hid (At l22 h23 (CA1 G1x1) V30) := F25.out.keep ab
  clear K26 F27 F28 F29 F25
  clear ab hV30
  have LF34 := hidL F34.out.val.1
  have LF36 := hidL F36.out.val.1
  have LF31 := hidL F31.out.val.1
  go_upto_region 7 with (first | ((with_reducible refine cfgL_load (b := w.heap.size) (vs := [.int .i64 cb, .int .i64 cg, .int .i64 co, .int .i64 cn, .int .i64 ce, .int .i64 cf, .int .i64 ct, .int .i64 cc, .slice na nn nc, .int .i64 ls, .int .i64 lc, .int .i64 lt, .int .i64 r1, .int .i64 r2, .int .i64 r3, .int .i64 r4, .int .i64 r5]) ?_ ?_ LF34.out ?_); exact rfl; exact rfl) | ((with_reducible refine shR_load (b := x20) (vs := [.int .i64 rc, .int .i64 jcb, .int .i64 jcg, .int .i64 jco, .int .i64 jcn, .int .i64 jce, .int .i64 jcf, .int .i64 jct, .int .i64 jcc, .slice ras rns rks, .int .i64 jls, .int .i64 jlc, .int .i64 jlt, .int .i64 jr1, .int .i64 jr2, .int .i64 jr3, .int .i64 jr4, .int .i64 jr5, .int .i64 0, .int .i64 0, .int .i64 sb, .int .i64 sg, .slice none 0 0, .slice none 0 0, .slice none 0 0, .slice none 0 0]) ?_ ?_ LF36.out ?_); exact rfl; exact rfl) | ((with_reducible refine cfgI_load (b := w21.heap.size) (vs := [.int .i64 cb, .int .i64 cg, .int .i64 co, .int .i64 cn, .int .i64 ce, .int .i64 cf, .int .i64 ct, .int .i64 cc, .slice (some ⟨G1x1, 0, none⟩) nn nn, .int .i64 ls, .int .i64 lc, .int .i64 lt, .int .i64 r1, .int .i64 r2, .int .i64 r3, .int .i64 r4, .int .i64 r5]) ?_ ?_ LF31.out ?_); exact rfl; exact rfl) | ((with_reducible refine cfgI_store (c' := #[.int .i64 cb, .int .i64 cg, .int .i64 co, .int .i64 cn, .int .i64 ce, .int .i64 cf, .int .i64 ct, .int .i64 cc, .slice (some ⟨G1x1, 0, none⟩) nn nn, .int .i64 ls, .int .i64 lc, .int .i64 lt, .int .i64 r1, .int .i64 r2, .int .i64 r3, .int .i64 r4, .int .i64 r5]) ?_ ?_ ?_ ?_ ?_ ?_); exact rfl; exact rfl; exact rfl; exact rfl; exact rfl))
  clear LF34 LF36 LF31
  rw [← HV30.out]
  clear HV30
  generalize w21.heap.size = x38 at *
  have LF34 := hidL F34.out.val.1
  have LF36 := hidL F36.out.val.1
  have LF31 := hidL F31.out.val.1
  go_wp2_with (first | ((with_reducible refine cfgL_load (b := w.heap.size) (vs := [.int .i64 cb, .int .i64 cg, .int .i64 co, .int .i64 cn, .int .i64 ce, .int .i64 cf, .int .i64 ct, .int .i64 cc, .slice na nn nc, .int .i64 ls, .int .i64 lc, .int .i64 lt, .int .i64 r1, .int .i64 r2, .int .i64 r3, .int .i64 r4, .int .i64 r5]) ?_ ?_ LF34.out ?_); exact rfl; exact rfl) | ((with_reducible refine shR_load (b := x20) (vs := [.int .i64 rc, .int .i64 jcb, .int .i64 jcg, .int .i64 jco, .int .i64 jcn, .int .i64 jce, .int .i64 jcf, .int .i64 jct, .int .i64 jcc, .slice ras rns rks, .int .i64 jls, .int .i64 jlc, .int .i64 jlt, .int .i64 jr1, .int .i64 jr2, .int .i64 jr3, .int .i64 jr4, .int .i64 jr5, .int .i64 0, .int .i64 0, .int .i64 sb, .int .i64 sg, .slice none 0 0, .slice none 0 0, .slice none 0 0, .slice none 0 0]) ?_ ?_ LF36.out ?_); exact rfl; exact rfl) | ((with_reducible refine cfgI_load (b := x38) (vs := [.int .i64 cb, .int .i64 cg, .int .i64 co, .int .i64 cn, .int .i64 ce, .int .i64 cf, .int .i64 ct, .int .i64 cc, .slice (some ⟨G1x1, 0, none⟩) nn nn, .int .i64 ls, .int .i64 lc, .int .i64 lt, .int .i64 r1, .int .i64 r2, .int .i64 r3, .int .i64 r4, .int .i64 r5]) ?_ ?_ LF31.out ?_); exact rfl; exact rfl))
  clear LF34 LF36 LF31
  refine (HG.out _ _ _ _ K33.out F37.out).mono ?_
  rintro e0 w39 ⟨⟨rag, rng, rkg, rfl, cr⟩, hb⟩
  obtain ⟨l40, hl40⟩ : ∃ n, V30.heap.size = n := ⟨_, rfl⟩
  obtain ⟨h41, hh41⟩ : ∃ n, w39.heap.size = n := ⟨_, rfl⟩
  have O42 : Hid ((w.heap.size + 1) ≤ l40 ∧ h12 ≤ l40 ∧ (x20 + 1) ≤ l40 ∧ h23 ≤ l40 ∧ (x38 + 1) ≤ l40 ∧ w.heap.size ≤ l40 ∧ l40 ≤ h41) := ⟨(by rw [← hl40]; exact F34.out.le), (by rw [← hl40]; exact F35.out.le), (by rw [← hl40]; exact F36.out.le), (by rw [← hl40]; exact F37.out.le), (by rw [← hl40]; exact F31.out.le), (by rw [← hl40]; exact K33.out.size), (by rw [← hl40, ← hh41]; exact hb.size)⟩
  have F43 : Hid (At l40 h41 (CR rag rng rkg) w39) := by rw [← hl40, ← hh41]; exact cr
  clear cr hl40 hh41
  have K44 : Hid (Below w.heap.size w w39) := K33.out.trans (hb.mono K33.out.size)
  have F45 : Hid (At w.heap.size (w.heap.size + 1) (Bx w.heap.size [.int .i64 cb, .int .i64 cg, .int .i64 co, .int .i64 cn, .int .i64 ce, .int .i64 cf, .int .i64 ct, .int .i64 cc, .slice na nn nc, .int .i64 ls, .int .i64 lc, .int .i64 lt, .int .i64 r1, .int .i64 r2, .int .i64 r3, .int .i64 r4, .int .i64 r5]) w39) := F34.out.keep hb
  have F46 : Hid (At l11 h12 (CR ras rns rks) w39) := F35.out.keep hb
  have F47 : Hid (At x20 (x20 + 1) (Bx x20 [.int .i64 rc, .int .i64 jcb, .int .i64 jcg, .int .i64 jco, .int .i64 jcn, .int .i64 jce, .int .i64 jcf, .int .i64 jct, .int .i64 jcc, .slice ras rns rks, .int .i64 jls, .int .i64 jlc, .int .i64 jlt, .int .i64 jr1, .int .i64 jr2, .int .i64 jr3, .int .i64 jr4, .int .i64 jr5, .int .i64 0, .int .i64 0, .int .i64 sb, .int .i64 sg, .slice none 0 0, .slice none 0 0, .slice none 0 0, .slice none 0 0]) w39) := F36.out.keep hb
  have F48 : Hid (At l22 h23 (CA1 G1x1) w39) := F37.out.keep hb
  have F49 : Hid (At x38 (x38 + 1) (Bx x38 [.int .i64 cb, .int .i64 cg, .int .i64 co, .int .i64 cn, .int .i64 ce, .int .i64 cf, .int .i64 ct, .int .i64 cc, .slice (some ⟨G1x1, 0, none⟩) nn nn, .int .i64 ls, .int .i64 lc, .int .i64 lt, .int .i64 r1, .int .i64 r2, .int .i64 r3, .int .i64 r4, .int .i64 r5]) w39) := F31.out.keep hb
  clear K33 F34 F35 F36 F37 F31 hb
  obtain ⟨V50, hV50⟩ : ∃ V, V = w39.alloc (.cells #[.int .i64 rc, .int .i64 jcb, .int .i64 jcg, .int .i64 jco, .int .i64 jcn, .int .i64 jce, .int .i64 jcf, .int .i64 jct, .int .i64 jcc, .slice rag rng rkg, .int .i64 jls, .int .i64 jlc, .int .i64 jlt, .int .i64 jr1, .int .i64 jr2, .int .i64 jr3, .int .i64 jr4, .int .i64 jr5, .int .i64 0, .int .i64 0, .int .i64 sb, .int .i64 sg, .slice none 0 0, .slice none 0 0, .slice none 0 0, .slice none 0 0] 54) := ⟨_, rfl⟩
  have HV50 : Hid (V50 = w39.alloc (.cells #[.int .i64 rc, .int .i64 jcb, .int .i64 jcg, .int .i64 jco, .int .i64 jcn, .int .i64 jce, .int .i64 jcf, .int .i64 jct, .int .i64 jcc, .slice rag rng rkg, .int .i64 jls, .int .i64 jlc, .int .i64 jlt, .int .i64 jr1, .int .i64 jr2, .int .i64 jr3, .int .i64 jr4, .int .i64 jr5, .int .i64 0, .int .i64 0, .int .i64 sb, .int .i64 sg, .slice none 0 0, .slice none 0 0, .slice none 0 0, .slice none 0 0] 54)) := hV50
  have ab : Below w39.heap.size w39 V50 := by rw [hV50]; exact (Below.refl _ _).alloc (Nat.le_refl _) _
  have F51 : Hid (At w39.heap.size (w39.heap.size + 1) (Bx w39.heap.size [.int .i64 rc, .int .i64 jcb, .int .i64 jcg, .int .i64 jco, .int .i64 jcn, .int .i64 jce, .int .i64 jcf, .int .i64 jct, .int .i64 jcc, .slice rag rng rkg, .int .i64 jls, .int .i64 jlc, .int .i64 jlt, .int .i64 jr1, .int .i64 jr2, .int .i64 jr3, .int .i64 jr4, .int .i64 jr5, .int .i64 0, .int .i64 0, .int .i64 sb, .int .i64 sg, .slice none 0 0, .slice none 0 0, .slice none 0 0, .slice none 0 0]) V50) := by rw [hV50]; exact Bx.new _ _ _
  have O52 : Hid ((w.heap.size + 1) ≤ w39.heap.size ∧ h12 ≤ w39.heap.size ∧ (x20 + 1) ≤ w39.heap.size ∧ h23 ≤ w39.heap.size ∧ (x38 + 1) ≤ w39.heap.size ∧ h41 ≤ w39.heap.size ∧ w.heap.size ≤ w39.heap.size) := ⟨F45.out.le, F46.out.le, F47.out.le, F48.out.le, F49.out.le, F43.out.le, K44.out.size⟩
  have K53 : Hid (Below w.heap.size w V50) := K44.out.trans (ab.mono K44.out.size)
  have F54 : Hid (At w.heap.size (w.heap.size + 1) (Bx w.heap.size [.int .i64 cb, .int .i64 cg, .int .i64 co, .int .i64 cn, .int .i64 ce, .int .i64 cf, .int .i64 ct, .int .i64 cc, .slice na nn nc, .int .i64 ls, .int .i64 lc, .int .i64 lt, .int .i64 r1, .int .i64 r2, .int .i64 r3, .int .i64 r4, .int .i64 r5]) V50) := F45.out.keep ab
  have F55 : Hid (At l11 h12 (CR ras rns rks) V50) := F46.out.keep ab
  have F56 : Hid (At x20 (x20 + 1) (Bx x20 [.int .i64 rc, .int .i64 jcb, .int .i64 jcg, .int .i64 jco, .int .i64 jcn, .int .i64 jce, .int .i64 jcf, .int .i64 jct, .int .i64 jcc, .slice ras rns rks, .int .i64 jls, .int .i64 jlc, .int .i64 jlt, .int .i64 jr1, .int .i64 jr2, .int .i64 jr3, .int .i64 jr4, .int .i64 jr5, .int .i64 0, .int .i64 0, .int .i64 sb, .int .i64 sg, .slice none 0 0, .slice none 0 0, .slice none 0 0, .slice none 0 0]) V50) := F47.out.keep ab
  have F57 : Hid (At l22 h23 (CA1 G1x1) V50) := F48.out.keep ab
  have F58 : Hid (At x38 (x38 + 1) (Bx x38 [.int .i64 cb, .int .i64 cg, .int .i64 co, .int .i64 cn, .int .i64 ce, .int .i64 cf, .int .i64 ct, .int .i64 cc, .slice (some ⟨G1x1, 0, none⟩) nn nn, .int .i64 ls, .int .i64 lc, .int .i64 lt, .int .i64 r1, .int .i64 r2, .int .i64 r3, .int .i64 r4, .int .i64 r5]) V50) := F49.out.keep ab
  have F59 : Hid (At l40 h41 (CR rag rng rkg) V50) := F43.out.keep ab
  clear K44 F45 F46 F47 F48 F49 F43
  clear ab hV50
  have LF54 := hidL F54.out.val.1
  have LF56 := hidL F56.out.val.1
  have LF58 := hidL F58.out.val.1
  have LF51 := hidL F51.out.val.1
  go_upto_region 8 with (first | ((with_reducible refine cfgL_load (b := w.heap.size) (vs := [.int .i64 cb, .int .i64 cg, .int .i64 co, .int .i64 cn, .int .i64 ce, .int .i64 cf, .int .i64 ct, .int .i64 cc, .slice na nn nc, .int .i64 ls, .int .i64 lc, .int .i64 lt, .int .i64 r1, .int .i64 r2, .int .i64 r3, .int .i64 r4, .int .i64 r5]) ?_ ?_ LF54.out ?_); exact rfl; exact rfl) | ((with_reducible refine shR_load (b := x20) (vs := [.int .i64 rc, .int .i64 jcb, .int .i64 jcg, .int .i64 jco, .int .i64 jcn, .int .i64 jce, .int .i64 jcf, .int .i64 jct, .int .i64 jcc, .slice ras rns rks, .int .i64 jls, .int .i64 jlc, .int .i64 jlt, .int .i64 jr1, .int .i64 jr2, .int .i64 jr3, .int .i64 jr4, .int .i64 jr5, .int .i64 0, .int .i64 0, .int .i64 sb, .int .i64 sg, .slice none 0 0, .slice none 0 0, .slice none 0 0, .slice none 0 0]) ?_ ?_ LF56.out ?_); exact rfl; exact rfl) | ((with_reducible refine cfgI_load (b := x38) (vs := [.int .i64 cb, .int .i64 cg, .int .i64 co, .int .i64 cn, .int .i64 ce, .int .i64 cf, .int .i64 ct, .int .i64 cc, .slice (some ⟨G1x1, 0, none⟩) nn nn, .int .i64 ls, .int .i64 lc, .int .i64 lt, .int .i64 r1, .int .i64 r2, .int .i64 r3, .int .i64 r4, .int .i64 r5]) ?_ ?_ LF58.out ?_); exact rfl; exact rfl) | ((with_reducible refine shR_load (b := w39.heap.size) (vs := [.int .i64 rc, .int .i64 jcb, .int .i64 jcg, .int .i64 jco, .int .i64 jcn, .int .i64 jce, .int .i64 jcf, .int .i64 jct, .int .i64 jcc, .slice rag rng rkg, .int .i64 jls, .int .i64 jlc, .int .i64 jlt, .int .i64 jr1, .int .i64 jr2, .int .i64 jr3, .int .i64 jr4, .int .i64 jr5, .int .i64 0, .int .i64 0, .int .i64 sb, .int .i64 sg, .slice none 0 0, .slice none 0 0, .slice none 0 0, .slice none 0 0]) ?_ ?_ LF51.out ?_); exact rfl; exact rfl) | ((with_reducible refine shR_store (c' := #[.int .i64 rc, .int .i64 jcb, .int .i64 jcg, .int .i64 jco, .int .i64 jcn, .int .i64 jce, .int .i64 jcf, .int .i64 jct, .int .i64 jcc, .slice rag rng rkg, .int .i64 jls, .int .i64 jlc, .int .i64 jlt, .int .i64 jr1, .int .i64 jr2, .int .i64 jr3, .int .i64 jr4, .int .i64 jr5, .int .i64 0, .int .i64 0, .int .i64 sb, .int .i64 sg, .slice none 0 0, .slice none 0 0, .slice none 0 0, .slice none 0 0]) ?_ ?_ ?_ ?_ ?_ ?_); exact rfl; exact rfl; exact rfl; exact rfl; exact rfl))
  clear LF54 LF56 LF58 LF51
  rw [← HV50.out]
  clear HV50
  generalize w39.heap.size = x60 at *
  have LF54 := hidL F54.out.val.1
  have LF56 := hidL F56.out.val.1
  have LF58 := hidL F58.out.val.1
  have LF51 := hidL F51.out.val.1
  go_wp2_with (first | ((with_reducible refine cfgL_load (b := w.heap.size) (vs := [.int .i64 cb, .int .i64 cg, .int .i64 co, .int .i64 cn, .int .i64 ce, .int .i64 cf, .int .i64 ct, .int .i64 cc, .slice na nn nc, .int .i64 ls, .int .i64 lc, .int .i64 lt, .int .i64 r1, .int .i64 r2, .int .i64 r3, .int .i64 r4, .int .i64 r5]) ?_ ?_ LF54.out ?_); exact rfl; exact rfl) | ((with_reducible refine shR_load (b := x20) (vs := [.int .i64 rc, .int .i64 jcb, .int .i64 jcg, .int .i64 jco, .int .i64 jcn, .int .i64 jce, .int .i64 jcf, .int .i64 jct, .int .i64 jcc, .slice ras rns rks, .int .i64 jls, .int .i64 jlc, .int .i64 jlt, .int .i64 jr1, .int .i64 jr2, .int .i64 jr3, .int .i64 jr4, .int .i64 jr5, .int .i64 0, .int .i64 0, .int .i64 sb, .int .i64 sg, .slice none 0 0, .slice none 0 0, .slice none 0 0, .slice none 0 0]) ?_ ?_ LF56.out ?_); exact rfl; exact rfl) | ((with_reducible refine cfgI_load (b := x38) (vs := [.int .i64 cb, .int .i64 cg, .int .i64 co, .int .i64 cn, .int .i64 ce, .int .i64 cf, .int .i64 ct, .int .i64 cc, .slice (some ⟨G1x1, 0, none⟩) nn nn, .int .i64 ls, .int .i64 lc, .int .i64 lt, .int .i64 r1, .int .i64 r2, .int .i64 r3, .int .i64 r4, .int .i64 r5]) ?_ ?_ LF58.out ?_); exact rfl; exact rfl) | ((with_reducible refine shR_load (b := x60) (vs := [.int .i64 rc, .int .i64 jcb, .int .i64 jcg, .int .i64 jco, .int .i64 jcn, .int .i64 jce, .int .i64 jcf, .int .i64 jct, .int .i64 jcc, .slice rag rng rkg, .int .i64 jls, .int .i64 jlc, .int .i64 jlt, .int .i64 jr1, .int .i64 jr2, .int .i64 jr3, .int .i64 jr4, .int .i64 jr5, .int .i64 0, .int .i64 0, .int .i64 sb, .int .i64 sg, .slice none 0 0, .slice none 0 0, .slice none 0 0, .slice none 0 0]) ?_ ?_ LF51.out ?_); exact rfl; exact rfl))
  clear LF54 LF56 LF58 LF51
  refine (HEQ.out _ _ _ _ _ _ _ _ _ _ _ F59.out F55.out).mono ?_
  rintro e0 w61 ⟨rfl, hb⟩
  have K62 : Hid (Below w.heap.size w w61) := K53.out.trans (hb.mono K53.out.size)
  have F63 : Hid (At w.heap.size (w.heap.size + 1) (Bx w.heap.size [.int .i64 cb, .int .i64 cg, .int .i64 co, .int .i64 cn, .int .i64 ce, .int .i64 cf, .int .i64 ct, .int .i64 cc, .slice na nn nc, .int .i64 ls, .int .i64 lc, .int .i64 lt, .int .i64 r1, .int .i64 r2, .int .i64 r3, .int .i64 r4, .int .i64 r5]) w61) := F54.out.keep hb
  have F64 : Hid (At l11 h12 (CR ras rns rks) w61) := F55.out.keep hb
  have F65 : Hid (At x20 (x20 + 1) (Bx x20 [.int .i64 rc, .int .i64 jcb, .int .i64 jcg, .int .i64 jco, .int .i64 jcn, .int .i64 jce, .int .i64 jcf, .int .i64 jct, .int .i64 jcc, .slice ras rns rks, .int .i64 jls, .int .i64 jlc, .int .i64 jlt, .int .i64 jr1, .int .i64 jr2, .int .i64 jr3, .int .i64 jr4, .int .i64 jr5, .int .i64 0, .int .i64 0, .int .i64 sb, .int .i64 sg, .slice none 0 0, .slice none 0 0, .slice none 0 0, .slice none 0 0]) w61) := F56.out.keep hb
  have F66 : Hid (At l22 h23 (CA1 G1x1) w61) := F57.out.keep hb
  have F67 : Hid (At x38 (x38 + 1) (Bx x38 [.int .i64 cb, .int .i64 cg, .int .i64 co, .int .i64 cn, .int .i64 ce, .int .i64 cf, .int .i64 ct, .int .i64 cc, .slice (some ⟨G1x1, 0, none⟩) nn nn, .int .i64 ls, .int .i64 lc, .int .i64 lt, .int .i64 r1, .int .i64 r2, .int .i64 r3, .int .i64 r4, .int .i64 r5]) w61) := F58.out.keep hb
  have F68 : Hid (At l40 h41 (CR rag rng rkg) w61) := F59.out.keep hb
  have F69 : Hid (At x60 (x60 + 1) (Bx x60 [.int .i64 rc, .int .i64 jcb, .int .i64 jcg, .int .i64 jco, .int .i64 jcn, .int .i64 jce, .int .i64 jcf, .int .i64 jct, .int .i64 jcc, .slice rag rng rkg, .int .i64 jls, .int .i64 jlc, .int .i64 jlt, .int .i64 jr1, .int .i64 jr2, .int .i64 jr3, .int .i64 jr4, .int .i64 jr5, .int .i64 0, .int .i64 0, .int .i64 sb, .int .i64 sg, .slice none 0 0, .slice none 0 0, .slice none 0 0, .slice none 0 0]) w61) := F51.out.keep hb
  clear K53 F54 F55 F56 F57 F58 F59 F51 hb
  have HKS : Hid (∀ X, Below w61.heap.size w61 X → X.rangeAt w.heap.size 0 [.int .i64 cb, .int .i64 cg, .int .i64 co, .int .i64 cn, .int .i64 ce, .int .i64 cf, .int .i64 ct, .int .i64 cc, .slice na nn nc, .int .i64 ls, .int .i64 lc, .int .i64 lt, .int .i64 r1, .int .i64 r2, .int .i64 r3, .int .i64 r4, .int .i64 r5] ∧ X.rangeAt x38 0 [.int .i64 cb, .int .i64 cg, .int .i64 co, .int .i64 cn, .int .i64 ce, .int .i64 cf, .int .i64 ct, .int .i64 cc, .slice (some ⟨G1x1, 0, none⟩) nn nn, .int .i64 ls, .int .i64 lc, .int .i64 lt, .int .i64 r1, .int .i64 r2, .int .i64 r3, .int .i64 r4, .int .i64 r5]) := fun X hX => ⟨range_of (F63.out.keep hX).val.1, range_of (F67.out.keep hX).val.1⟩
  have B0 : Hid (Below w61.heap.size w61 w61.drew) := (Below.refl _ _).drew
  have KB0 : Hid (Below w.heap.size w w61.drew) := K62.out.trans (B0.out.mono K62.out.size)
  go_upto_region 10 with fail
  refine wp_region_held_drew (S := fun X => X.rangeAt w.heap.size 0 [.int .i64 cb, .int .i64 cg, .int .i64 co, .int .i64 cn, .int .i64 ce, .int .i64 cf, .int .i64 ct, .int .i64 cc, .slice na nn nc, .int .i64 ls, .int .i64 lc, .int .i64 lt, .int .i64 r1, .int .i64 r2, .int .i64 r3, .int .i64 r4, .int .i64 r5] ∧ X.rangeAt x38 0 [.int .i64 cb, .int .i64 cg, .int .i64 co, .int .i64 cn, .int .i64 ce, .int .i64 cf, .int .i64 ct, .int .i64 cc, .slice (some ⟨G1x1, 0, none⟩) nn nn, .int .i64 ls, .int .i64 lc, .int .i64 lt, .int .i64 r1, .int .i64 r2, .int .i64 r3, .int .i64 r4, .int .i64 r5]) (by kernel_rfl) ?_ (fun hHeld => ?_)
  · exact HKS.out _ B0.out
  refine' wpAnyH_take (i := 0) (oi := _) (v := _) rfl (by kernel_rfl) (by kernel_rfl) (by kernel_rfl) (fun _ _ _ h => h) (yieldsIf_load_mid (by rfl) _ _ rfl (x38) 0 rfl _ _ (fun _ h => h.2) Tryz.underlying41 rfl cfgI_size) hHeld ?_
  (try simp only [Act.put, List.setIfInBounds_toArray, List.set_cons_zero, List.set_cons_succ])
  refine' wpAnyH_take (i := 1) (oi := _) (v := _) rfl (by kernel_rfl) (by kernel_rfl) (by kernel_rfl) (fun _ _ _ h => h) (yieldsIf_load_mid (by rfl) _ _ rfl (w.heap.size) 0 rfl _ _ (fun _ h => h.1) Tryz.underlying28 rfl cfgL_size) hHeld ?_
  (try simp only [Act.put, List.setIfInBounds_toArray, List.set_cons_zero, List.set_cons_succ])
  refine wpAnyH_ready (rs := [2]) (by kernel_rfl) (by simp) ?_
  refine AllReadyH.cons (o := _) rfl (fun K hK => ?_) AllReadyH.nil
  go_simp
  (with_reducible refine (HT1.out w61.drew KB0.out).mono ?_)
  rintro e0 w70 ⟨⟨G1t, rfl, ca⟩, hb⟩
  have BA : Hid (Below w61.heap.size w61 w70) := B0.out.trans (hb.mono B0.out.size)
  have MA := hidL ca
  clear ca hb
  go_wp2_with fail
  refine hK.out _ _ ?_ (fun hHeld => ?_)
  · exact HKS.out _ BA.out
  clear hK
  (try simp only [Act.put, List.setIfInBounds_toArray, List.set_cons_zero, List.set_cons_succ])
  refine wpAnyH_ready (rs := [3]) (by kernel_rfl) (by simp) ?_
  refine AllReadyH.cons (o := _) rfl (fun K hK => ?_) AllReadyH.nil
  go_simp
  (with_reducible refine (HQ1.out w70 _ _ _ _ _ _ (F66.out.keep BA.out) MA.out).mono ?_)
  rintro e0 w71 ⟨rfl, hb⟩
  have BB : Hid (Below w61.heap.size w61 w71) := BA.out.trans (hb.mono BA.out.size)
  clear hb
  go_wp2_with fail
  refine hK.out _ _ ?_ (fun hHeld => ?_)
  · exact HKS.out _ BB.out
  clear hK
  (try simp only [Act.put, List.setIfInBounds_toArray, List.set_cons_zero, List.set_cons_succ])
  refine wpAnyH_ready (rs := [4]) (by kernel_rfl) (by simp) ?_
  refine AllReadyH.cons (o := _) rfl (fun K hK => ?_) AllReadyH.nil
  go_simp
  refine hK.out _ _ ?_ (fun hHeld => ?_)
  · exact HKS.out _ BB.out
  clear hK
  (try simp only [Act.put, List.setIfInBounds_toArray, List.set_cons_zero, List.set_cons_succ])
  refine wpAnyH_done (by kernel_rfl) ?_ _
  clear hHeld
  have K72 : Hid (Below w.heap.size w w71) := K62.out.trans (BB.out.mono K62.out.size)
  have F73 : Hid (At w.heap.size (w.heap.size + 1) (Bx w.heap.size [.int .i64 cb, .int .i64 cg, .int .i64 co, .int .i64 cn, .int .i64 ce, .int .i64 cf, .int .i64 ct, .int .i64 cc, .slice na nn nc, .int .i64 ls, .int .i64 lc, .int .i64 lt, .int .i64 r1, .int .i64 r2, .int .i64 r3, .int .i64 r4, .int .i64 r5]) w71) := F63.out.keep BB.out
  have F74 : Hid (At l11 h12 (CR ras rns rks) w71) := F64.out.keep BB.out
  have F75 : Hid (At x20 (x20 + 1) (Bx x20 [.int .i64 rc, .int .i64 jcb, .int .i64 jcg, .int .i64 jco, .int .i64 jcn, .int .i64 jce, .int .i64 jcf, .int .i64 jct, .int .i64 jcc, .slice ras rns rks, .int .i64 jls, .int .i64 jlc, .int .i64 jlt, .int .i64 jr1, .int .i64 jr2, .int .i64 jr3, .int .i64 jr4, .int .i64 jr5, .int .i64 0, .int .i64 0, .int .i64 sb, .int .i64 sg, .slice none 0 0, .slice none 0 0, .slice none 0 0, .slice none 0 0]) w71) := F65.out.keep BB.out
  have F76 : Hid (At l22 h23 (CA1 G1x1) w71) := F66.out.keep BB.out
  have F77 : Hid (At x38 (x38 + 1) (Bx x38 [.int .i64 cb, .int .i64 cg, .int .i64 co, .int .i64 cn, .int .i64 ce, .int .i64 cf, .int .i64 ct, .int .i64 cc, .slice (some ⟨G1x1, 0, none⟩) nn nn, .int .i64 ls, .int .i64 lc, .int .i64 lt, .int .i64 r1, .int .i64 r2, .int .i64 r3, .int .i64 r4, .int .i64 r5]) w71) := F67.out.keep BB.out
  have F78 : Hid (At l40 h41 (CR rag rng rkg) w71) := F68.out.keep BB.out
  have F79 : Hid (At x60 (x60 + 1) (Bx x60 [.int .i64 rc, .int .i64 jcb, .int .i64 jcg, .int .i64 jco, .int .i64 jcn, .int .i64 jce, .int .i64 jcf, .int .i64 jct, .int .i64 jcc, .slice rag rng rkg, .int .i64 jls, .int .i64 jlc, .int .i64 jlt, .int .i64 jr1, .int .i64 jr2, .int .i64 jr3, .int .i64 jr4, .int .i64 jr5, .int .i64 0, .int .i64 0, .int .i64 sb, .int .i64 sg, .slice none 0 0, .slice none 0 0, .slice none 0 0, .slice none 0 0]) w71) := F69.out.keep BB.out
  clear K62 F63 F64 F65 F66 F67 F68 F69
  clear HKS B0 BA BB MA KB0
  clear HQ1
  have LF73 := hidL F73.out.val.1
  have LF75 := hidL F75.out.val.1
  have LF77 := hidL F77.out.val.1
  have LF79 := hidL F79.out.val.1
  go_wp2_with (first | ((with_reducible refine cfgL_load (b := w.heap.size) (vs := [.int .i64 cb, .int .i64 cg, .int .i64 co, .int .i64 cn, .int .i64 ce, .int .i64 cf, .int .i64 ct, .int .i64 cc, .slice na nn nc, .int .i64 ls, .int .i64 lc, .int .i64 lt, .int .i64 r1, .int .i64 r2, .int .i64 r3, .int .i64 r4, .int .i64 r5]) ?_ ?_ LF73.out ?_); exact rfl; exact rfl) | ((with_reducible refine shR_load (b := x20) (vs := [.int .i64 rc, .int .i64 jcb, .int .i64 jcg, .int .i64 jco, .int .i64 jcn, .int .i64 jce, .int .i64 jcf, .int .i64 jct, .int .i64 jcc, .slice ras rns rks, .int .i64 jls, .int .i64 jlc, .int .i64 jlt, .int .i64 jr1, .int .i64 jr2, .int .i64 jr3, .int .i64 jr4, .int .i64 jr5, .int .i64 0, .int .i64 0, .int .i64 sb, .int .i64 sg, .slice none 0 0, .slice none 0 0, .slice none 0 0, .slice none 0 0]) ?_ ?_ LF75.out ?_); exact rfl; exact rfl) | ((with_reducible refine cfgI_load (b := x38) (vs := [.int .i64 cb, .int .i64 cg, .int .i64 co, .int .i64 cn, .int .i64 ce, .int .i64 cf, .int .i64 ct, .int .i64 cc, .slice (some ⟨G1x1, 0, none⟩) nn nn, .int .i64 ls, .int .i64 lc, .int .i64 lt, .int .i64 r1, .int .i64 r2, .int .i64 r3, .int .i64 r4, .int .i64 r5]) ?_ ?_ LF77.out ?_); exact rfl; exact rfl) | ((with_reducible refine shR_load (b := x60) (vs := [.int .i64 rc, .int .i64 jcb, .int .i64 jcg, .int .i64 jco, .int .i64 jcn, .int .i64 jce, .int .i64 jcf, .int .i64 jct, .int .i64 jcc, .slice rag rng rkg, .int .i64 jls, .int .i64 jlc, .int .i64 jlt, .int .i64 jr1, .int .i64 jr2, .int .i64 jr3, .int .i64 jr4, .int .i64 jr5, .int .i64 0, .int .i64 0, .int .i64 sb, .int .i64 sg, .slice none 0 0, .slice none 0 0, .slice none 0 0, .slice none 0 0]) ?_ ?_ LF79.out ?_); exact rfl; exact rfl))
  clear LF73 LF75 LF77 LF79
  refine (HM1.out _ _ _ _ F76.out (by have := SW.out; have := O16.out; have := O24.out; have := O32.out; have := O42.out; have := O52.out; omega)).mono ?_
  rintro e0 w80 ⟨rfl, hg, hb⟩
  clear F76
  have K81 : Hid (Below w.heap.size w w80) := K72.out.trans hb
  have F82 : Hid (At w.heap.size (w.heap.size + 1) (Bx w.heap.size [.int .i64 cb, .int .i64 cg, .int .i64 co, .int .i64 cn, .int .i64 ce, .int .i64 cf, .int .i64 ct, .int .i64 cc, .slice na nn nc, .int .i64 ls, .int .i64 lc, .int .i64 lt, .int .i64 r1, .int .i64 r2, .int .i64 r3, .int .i64 r4, .int .i64 r5]) w80) := F73.out.wi hg (by have := SW.out; have := O16.out; have := O24.out; have := O32.out; have := O42.out; have := O52.out; omega)
  have F83 : Hid (At l11 h12 (CR ras rns rks) w80) := F74.out.wi hg (by have := SW.out; have := O16.out; have := O24.out; have := O32.out; have := O42.out; have := O52.out; omega)
  have F84 : Hid (At x20 (x20 + 1) (Bx x20 [.int .i64 rc, .int .i64 jcb, .int .i64 jcg, .int .i64 jco, .int .i64 jcn, .int .i64 jce, .int .i64 jcf, .int .i64 jct, .int .i64 jcc, .slice ras rns rks, .int .i64 jls, .int .i64 jlc, .int .i64 jlt, .int .i64 jr1, .int .i64 jr2, .int .i64 jr3, .int .i64 jr4, .int .i64 jr5, .int .i64 0, .int .i64 0, .int .i64 sb, .int .i64 sg, .slice none 0 0, .slice none 0 0, .slice none 0 0, .slice none 0 0]) w80) := F75.out.wi hg (by have := SW.out; have := O16.out; have := O24.out; have := O32.out; have := O42.out; have := O52.out; omega)
  have F85 : Hid (At x38 (x38 + 1) (Bx x38 [.int .i64 cb, .int .i64 cg, .int .i64 co, .int .i64 cn, .int .i64 ce, .int .i64 cf, .int .i64 ct, .int .i64 cc, .slice (some ⟨G1x1, 0, none⟩) nn nn, .int .i64 ls, .int .i64 lc, .int .i64 lt, .int .i64 r1, .int .i64 r2, .int .i64 r3, .int .i64 r4, .int .i64 r5]) w80) := F77.out.wi hg (by have := SW.out; have := O16.out; have := O24.out; have := O32.out; have := O42.out; have := O52.out; omega)
  have F86 : Hid (At l40 h41 (CR rag rng rkg) w80) := F78.out.wi hg (by have := SW.out; have := O16.out; have := O24.out; have := O32.out; have := O42.out; have := O52.out; omega)
  have F87 : Hid (At x60 (x60 + 1) (Bx x60 [.int .i64 rc, .int .i64 jcb, .int .i64 jcg, .int .i64 jco, .int .i64 jcn, .int .i64 jce, .int .i64 jcf, .int .i64 jct, .int .i64 jcc, .slice rag rng rkg, .int .i64 jls, .int .i64 jlc, .int .i64 jlt, .int .i64 jr1, .int .i64 jr2, .int .i64 jr3, .int .i64 jr4, .int .i64 jr5, .int .i64 0, .int .i64 0, .int .i64 sb, .int .i64 sg, .slice none 0 0, .slice none 0 0, .slice none 0 0, .slice none 0 0]) w80) := F79.out.wi hg (by have := SW.out; have := O16.out; have := O24.out; have := O32.out; have := O42.out; have := O52.out; omega)
  clear K72 F73 F74 F75 F77 F78 F79 hg hb
  clear HM1
  have hkd : decide (k1 < 0) = false := by simpa using hk0
  have LF82 := hidL F82.out.val.1
  have LF84 := hidL F84.out.val.1
  have LF85 := hidL F85.out.val.1
  have LF87 := hidL F87.out.val.1
  go_wp2_with (first | ((with_reducible refine cfgL_load (b := w.heap.size) (vs := [.int .i64 cb, .int .i64 cg, .int .i64 co, .int .i64 cn, .int .i64 ce, .int .i64 cf, .int .i64 ct, .int .i64 cc, .slice na nn nc, .int .i64 ls, .int .i64 lc, .int .i64 lt, .int .i64 r1, .int .i64 r2, .int .i64 r3, .int .i64 r4, .int .i64 r5]) ?_ ?_ LF82.out ?_); exact rfl; exact rfl) | ((with_reducible refine cfgL_loadG (b := w.heap.size) (vs := [.int .i64 cb, .int .i64 cg, .int .i64 co, .int .i64 cn, .int .i64 ce, .int .i64 cf, .int .i64 ct, .int .i64 cc, .slice na nn nc, .int .i64 ls, .int .i64 lc, .int .i64 lt, .int .i64 r1, .int .i64 r2, .int .i64 r3, .int .i64 r4, .int .i64 r5]) ?_ ?_ ?_ LF82.out ?_); exact rfl; exact rfl; (first | exact rfl | kernel_rfl | simp [Region.wanted, yielded])) | ((with_reducible refine shR_load (b := x20) (vs := [.int .i64 rc, .int .i64 jcb, .int .i64 jcg, .int .i64 jco, .int .i64 jcn, .int .i64 jce, .int .i64 jcf, .int .i64 jct, .int .i64 jcc, .slice ras rns rks, .int .i64 jls, .int .i64 jlc, .int .i64 jlt, .int .i64 jr1, .int .i64 jr2, .int .i64 jr3, .int .i64 jr4, .int .i64 jr5, .int .i64 0, .int .i64 0, .int .i64 sb, .int .i64 sg, .slice none 0 0, .slice none 0 0, .slice none 0 0, .slice none 0 0]) ?_ ?_ LF84.out ?_); exact rfl; exact rfl) | ((with_reducible refine shR_loadG (b := x20) (vs := [.int .i64 rc, .int .i64 jcb, .int .i64 jcg, .int .i64 jco, .int .i64 jcn, .int .i64 jce, .int .i64 jcf, .int .i64 jct, .int .i64 jcc, .slice ras rns rks, .int .i64 jls, .int .i64 jlc, .int .i64 jlt, .int .i64 jr1, .int .i64 jr2, .int .i64 jr3, .int .i64 jr4, .int .i64 jr5, .int .i64 0, .int .i64 0, .int .i64 sb, .int .i64 sg, .slice none 0 0, .slice none 0 0, .slice none 0 0, .slice none 0 0]) ?_ ?_ ?_ LF84.out ?_); exact rfl; exact rfl; (first | exact rfl | kernel_rfl | simp [Region.wanted, yielded])) | ((with_reducible refine cfgI_load (b := x38) (vs := [.int .i64 cb, .int .i64 cg, .int .i64 co, .int .i64 cn, .int .i64 ce, .int .i64 cf, .int .i64 ct, .int .i64 cc, .slice (some ⟨G1x1, 0, none⟩) nn nn, .int .i64 ls, .int .i64 lc, .int .i64 lt, .int .i64 r1, .int .i64 r2, .int .i64 r3, .int .i64 r4, .int .i64 r5]) ?_ ?_ LF85.out ?_); exact rfl; exact rfl) | ((with_reducible refine cfgI_loadG (b := x38) (vs := [.int .i64 cb, .int .i64 cg, .int .i64 co, .int .i64 cn, .int .i64 ce, .int .i64 cf, .int .i64 ct, .int .i64 cc, .slice (some ⟨G1x1, 0, none⟩) nn nn, .int .i64 ls, .int .i64 lc, .int .i64 lt, .int .i64 r1, .int .i64 r2, .int .i64 r3, .int .i64 r4, .int .i64 r5]) ?_ ?_ ?_ LF85.out ?_); exact rfl; exact rfl; (first | exact rfl | kernel_rfl | simp [Region.wanted, yielded])) | ((with_reducible refine shR_load (b := x60) (vs := [.int .i64 rc, .int .i64 jcb, .int .i64 jcg, .int .i64 jco, .int .i64 jcn, .int .i64 jce, .int .i64 jcf, .int .i64 jct, .int .i64 jcc, .slice rag rng rkg, .int .i64 jls, .int .i64 jlc, .int .i64 jlt, .int .i64 jr1, .int .i64 jr2, .int .i64 jr3, .int .i64 jr4, .int .i64 jr5, .int .i64 0, .int .i64 0, .int .i64 sb, .int .i64 sg, .slice none 0 0, .slice none 0 0, .slice none 0 0, .slice none 0 0]) ?_ ?_ LF87.out ?_); exact rfl; exact rfl) | ((with_reducible refine shR_loadG (b := x60) (vs := [.int .i64 rc, .int .i64 jcb, .int .i64 jcg, .int .i64 jco, .int .i64 jcn, .int .i64 jce, .int .i64 jcf, .int .i64 jct, .int .i64 jcc, .slice rag rng rkg, .int .i64 jls, .int .i64 jlc, .int .i64 jlt, .int .i64 jr1, .int .i64 jr2, .int .i64 jr3, .int .i64 jr4, .int .i64 jr5, .int .i64 0, .int .i64 0, .int .i64 sb, .int .i64 sg, .slice none 0 0, .slice none 0 0, .slice none 0 0, .slice none 0 0]) ?_ ?_ ?_ LF87.out ?_); exact rfl; exact rfl; (first | exact rfl | kernel_rfl | simp [Region.wanted, yielded])))
  clear LF82 LF84 LF85 LF87
  refine (HEQ.out _ _ _ _ _ _ _ _ _ _ _ F86.out F83.out).mono ?_
  rintro e0 w88 ⟨rfl, hb⟩
  have K89 : Hid (Below w.heap.size w w88) := K81.out.trans (hb.mono K81.out.size)
  have F90 : Hid (At w.heap.size (w.heap.size + 1) (Bx w.heap.size [.int .i64 cb, .int .i64 cg, .int .i64 co, .int .i64 cn, .int .i64 ce, .int .i64 cf, .int .i64 ct, .int .i64 cc, .slice na nn nc, .int .i64 ls, .int .i64 lc, .int .i64 lt, .int .i64 r1, .int .i64 r2, .int .i64 r3, .int .i64 r4, .int .i64 r5]) w88) := F82.out.keep hb
  have F91 : Hid (At l11 h12 (CR ras rns rks) w88) := F83.out.keep hb
  have F92 : Hid (At x20 (x20 + 1) (Bx x20 [.int .i64 rc, .int .i64 jcb, .int .i64 jcg, .int .i64 jco, .int .i64 jcn, .int .i64 jce, .int .i64 jcf, .int .i64 jct, .int .i64 jcc, .slice ras rns rks, .int .i64 jls, .int .i64 jlc, .int .i64 jlt, .int .i64 jr1, .int .i64 jr2, .int .i64 jr3, .int .i64 jr4, .int .i64 jr5, .int .i64 0, .int .i64 0, .int .i64 sb, .int .i64 sg, .slice none 0 0, .slice none 0 0, .slice none 0 0, .slice none 0 0]) w88) := F84.out.keep hb
  have F93 : Hid (At x38 (x38 + 1) (Bx x38 [.int .i64 cb, .int .i64 cg, .int .i64 co, .int .i64 cn, .int .i64 ce, .int .i64 cf, .int .i64 ct, .int .i64 cc, .slice (some ⟨G1x1, 0, none⟩) nn nn, .int .i64 ls, .int .i64 lc, .int .i64 lt, .int .i64 r1, .int .i64 r2, .int .i64 r3, .int .i64 r4, .int .i64 r5]) w88) := F85.out.keep hb
  have F94 : Hid (At l40 h41 (CR rag rng rkg) w88) := F86.out.keep hb
  have F95 : Hid (At x60 (x60 + 1) (Bx x60 [.int .i64 rc, .int .i64 jcb, .int .i64 jcg, .int .i64 jco, .int .i64 jcn, .int .i64 jce, .int .i64 jcf, .int .i64 jct, .int .i64 jcc, .slice rag rng rkg, .int .i64 jls, .int .i64 jlc, .int .i64 jlt, .int .i64 jr1, .int .i64 jr2, .int .i64 jr3, .int .i64 jr4, .int .i64 jr5, .int .i64 0, .int .i64 0, .int .i64 sb, .int .i64 sg, .slice none 0 0, .slice none 0 0, .slice none 0 0, .slice none 0 0]) w88) := F87.out.keep hb
  clear K81 F82 F83 F84 F85 F86 F87 hb
  clear hkd
  clear F93
  have LF90 := hidL F90.out.val.1
  have LF92 := hidL F92.out.val.1
  have LF95 := hidL F95.out.val.1
  go_wp2_with (first | ((with_reducible refine cfgL_load (b := w.heap.size) (vs := [.int .i64 cb, .int .i64 cg, .int .i64 co, .int .i64 cn, .int .i64 ce, .int .i64 cf, .int .i64 ct, .int .i64 cc, .slice na nn nc, .int .i64 ls, .int .i64 lc, .int .i64 lt, .int .i64 r1, .int .i64 r2, .int .i64 r3, .int .i64 r4, .int .i64 r5]) ?_ ?_ LF90.out ?_); exact rfl; exact rfl) | ((with_reducible refine shR_load (b := x20) (vs := [.int .i64 rc, .int .i64 jcb, .int .i64 jcg, .int .i64 jco, .int .i64 jcn, .int .i64 jce, .int .i64 jcf, .int .i64 jct, .int .i64 jcc, .slice ras rns rks, .int .i64 jls, .int .i64 jlc, .int .i64 jlt, .int .i64 jr1, .int .i64 jr2, .int .i64 jr3, .int .i64 jr4, .int .i64 jr5, .int .i64 0, .int .i64 0, .int .i64 sb, .int .i64 sg, .slice none 0 0, .slice none 0 0, .slice none 0 0, .slice none 0 0]) ?_ ?_ LF92.out ?_); exact rfl; exact rfl) | ((with_reducible refine shR_load (b := x60) (vs := [.int .i64 rc, .int .i64 jcb, .int .i64 jcg, .int .i64 jco, .int .i64 jcn, .int .i64 jce, .int .i64 jcf, .int .i64 jct, .int .i64 jcc, .slice rag rng rkg, .int .i64 jls, .int .i64 jlc, .int .i64 jlt, .int .i64 jr1, .int .i64 jr2, .int .i64 jr3, .int .i64 jr4, .int .i64 jr5, .int .i64 0, .int .i64 0, .int .i64 sb, .int .i64 sg, .slice none 0 0, .slice none 0 0, .slice none 0 0, .slice none 0 0]) ?_ ?_ LF95.out ?_); exact rfl; exact rfl))
  clear LF90 LF92 LF95
  refine (HMR.out _ _ _ _ _ _ K89.out F94.out (by have := SW.out; have := O16.out; have := O24.out; have := O32.out; have := O42.out; have := O52.out; omega)).mono ?_
  rintro e0 w96 ⟨rfl, mr, hg, hb⟩
  clear F94
  have K97 : Hid (Below w.heap.size w w96) := K89.out.trans hb
  have F98 : Hid (At w.heap.size (w.heap.size + 1) (Bx w.heap.size [.int .i64 cb, .int .i64 cg, .int .i64 co, .int .i64 cn, .int .i64 ce, .int .i64 cf, .int .i64 ct, .int .i64 cc, .slice na nn nc, .int .i64 ls, .int .i64 lc, .int .i64 lt, .int .i64 r1, .int .i64 r2, .int .i64 r3, .int .i64 r4, .int .i64 r5]) w96) := F90.out.wi hg (by have := SW.out; have := O16.out; have := O24.out; have := O32.out; have := O42.out; have := O52.out; omega)
  have F99 : Hid (At l11 h12 (CR ras rns rks) w96) := F91.out.wi hg (by have := SW.out; have := O16.out; have := O24.out; have := O32.out; have := O42.out; have := O52.out; omega)
  have F100 : Hid (At x20 (x20 + 1) (Bx x20 [.int .i64 rc, .int .i64 jcb, .int .i64 jcg, .int .i64 jco, .int .i64 jcn, .int .i64 jce, .int .i64 jcf, .int .i64 jct, .int .i64 jcc, .slice ras rns rks, .int .i64 jls, .int .i64 jlc, .int .i64 jlt, .int .i64 jr1, .int .i64 jr2, .int .i64 jr3, .int .i64 jr4, .int .i64 jr5, .int .i64 0, .int .i64 0, .int .i64 sb, .int .i64 sg, .slice none 0 0, .slice none 0 0, .slice none 0 0, .slice none 0 0]) w96) := F92.out.wi hg (by have := SW.out; have := O16.out; have := O24.out; have := O32.out; have := O42.out; have := O52.out; omega)
  have F101 : Hid (At x60 (x60 + 1) (Bx x60 [.int .i64 rc, .int .i64 jcb, .int .i64 jcg, .int .i64 jco, .int .i64 jcn, .int .i64 jce, .int .i64 jcf, .int .i64 jct, .int .i64 jcc, .slice rag rng rkg, .int .i64 jls, .int .i64 jlc, .int .i64 jlt, .int .i64 jr1, .int .i64 jr2, .int .i64 jr3, .int .i64 jr4, .int .i64 jr5, .int .i64 0, .int .i64 0, .int .i64 sb, .int .i64 sg, .slice none 0 0, .slice none 0 0, .slice none 0 0, .slice none 0 0]) w96) := F95.out.wi hg (by have := SW.out; have := O16.out; have := O24.out; have := O32.out; have := O42.out; have := O52.out; omega)
  clear K89 F90 F91 F92 F95 hg hb
  have F102 : Hid (At l40 h41 (MR rag rng rkg) w96) := mr
  clear mr HMR
  have LF98 := hidL F98.out.val.1
  have LF100 := hidL F100.out.val.1
  have LF101 := hidL F101.out.val.1
  go_wp2_with (first | ((with_reducible refine cfgL_load (b := w.heap.size) (vs := [.int .i64 cb, .int .i64 cg, .int .i64 co, .int .i64 cn, .int .i64 ce, .int .i64 cf, .int .i64 ct, .int .i64 cc, .slice na nn nc, .int .i64 ls, .int .i64 lc, .int .i64 lt, .int .i64 r1, .int .i64 r2, .int .i64 r3, .int .i64 r4, .int .i64 r5]) ?_ ?_ LF98.out ?_); exact rfl; exact rfl) | ((with_reducible refine shR_load (b := x20) (vs := [.int .i64 rc, .int .i64 jcb, .int .i64 jcg, .int .i64 jco, .int .i64 jcn, .int .i64 jce, .int .i64 jcf, .int .i64 jct, .int .i64 jcc, .slice ras rns rks, .int .i64 jls, .int .i64 jlc, .int .i64 jlt, .int .i64 jr1, .int .i64 jr2, .int .i64 jr3, .int .i64 jr4, .int .i64 jr5, .int .i64 0, .int .i64 0, .int .i64 sb, .int .i64 sg, .slice none 0 0, .slice none 0 0, .slice none 0 0, .slice none 0 0]) ?_ ?_ LF100.out ?_); exact rfl; exact rfl) | ((with_reducible refine shR_load (b := x60) (vs := [.int .i64 rc, .int .i64 jcb, .int .i64 jcg, .int .i64 jco, .int .i64 jcn, .int .i64 jce, .int .i64 jcf, .int .i64 jct, .int .i64 jcc, .slice rag rng rkg, .int .i64 jls, .int .i64 jlc, .int .i64 jlt, .int .i64 jr1, .int .i64 jr2, .int .i64 jr3, .int .i64 jr4, .int .i64 jr5, .int .i64 0, .int .i64 0, .int .i64 sb, .int .i64 sg, .slice none 0 0, .slice none 0 0, .slice none 0 0, .slice none 0 0]) ?_ ?_ LF101.out ?_); exact rfl; exact rfl))
  clear LF98 LF100 LF101
  refine (HHR.out _ _ _ _ _ _ F102.out).mono ?_
  rintro e0 w103 ⟨rfl, hb⟩
  have K104 : Hid (Below w.heap.size w w103) := K97.out.trans (hb.mono K97.out.size)
  have F105 : Hid (At w.heap.size (w.heap.size + 1) (Bx w.heap.size [.int .i64 cb, .int .i64 cg, .int .i64 co, .int .i64 cn, .int .i64 ce, .int .i64 cf, .int .i64 ct, .int .i64 cc, .slice na nn nc, .int .i64 ls, .int .i64 lc, .int .i64 lt, .int .i64 r1, .int .i64 r2, .int .i64 r3, .int .i64 r4, .int .i64 r5]) w103) := F98.out.keep hb
  have F106 : Hid (At l11 h12 (CR ras rns rks) w103) := F99.out.keep hb
  have F107 : Hid (At x20 (x20 + 1) (Bx x20 [.int .i64 rc, .int .i64 jcb, .int .i64 jcg, .int .i64 jco, .int .i64 jcn, .int .i64 jce, .int .i64 jcf, .int .i64 jct, .int .i64 jcc, .slice ras rns rks, .int .i64 jls, .int .i64 jlc, .int .i64 jlt, .int .i64 jr1, .int .i64 jr2, .int .i64 jr3, .int .i64 jr4, .int .i64 jr5, .int .i64 0, .int .i64 0, .int .i64 sb, .int .i64 sg, .slice none 0 0, .slice none 0 0, .slice none 0 0, .slice none 0 0]) w103) := F100.out.keep hb
  have F108 : Hid (At x60 (x60 + 1) (Bx x60 [.int .i64 rc, .int .i64 jcb, .int .i64 jcg, .int .i64 jco, .int .i64 jcn, .int .i64 jce, .int .i64 jcf, .int .i64 jct, .int .i64 jcc, .slice rag rng rkg, .int .i64 jls, .int .i64 jlc, .int .i64 jlt, .int .i64 jr1, .int .i64 jr2, .int .i64 jr3, .int .i64 jr4, .int .i64 jr5, .int .i64 0, .int .i64 0, .int .i64 sb, .int .i64 sg, .slice none 0 0, .slice none 0 0, .slice none 0 0, .slice none 0 0]) w103) := F101.out.keep hb
  have F109 : Hid (At l40 h41 (MR rag rng rkg) w103) := F102.out.keep hb
  clear K97 F98 F99 F100 F101 F102 hb
  clear SW O16 O24 O32 O42 O52
  have LF105 := hidL F105.out.val.1
  have LF107 := hidL F107.out.val.1
  have LF108 := hidL F108.out.val.1
  go_wp2_with (first | ((with_reducible refine cfgL_load (b := w.heap.size) (vs := [.int .i64 cb, .int .i64 cg, .int .i64 co, .int .i64 cn, .int .i64 ce, .int .i64 cf, .int .i64 ct, .int .i64 cc, .slice na nn nc, .int .i64 ls, .int .i64 lc, .int .i64 lt, .int .i64 r1, .int .i64 r2, .int .i64 r3, .int .i64 r4, .int .i64 r5]) ?_ ?_ LF105.out ?_); exact rfl; exact rfl) | ((with_reducible refine shR_load (b := x20) (vs := [.int .i64 rc, .int .i64 jcb, .int .i64 jcg, .int .i64 jco, .int .i64 jcn, .int .i64 jce, .int .i64 jcf, .int .i64 jct, .int .i64 jcc, .slice ras rns rks, .int .i64 jls, .int .i64 jlc, .int .i64 jlt, .int .i64 jr1, .int .i64 jr2, .int .i64 jr3, .int .i64 jr4, .int .i64 jr5, .int .i64 0, .int .i64 0, .int .i64 sb, .int .i64 sg, .slice none 0 0, .slice none 0 0, .slice none 0 0, .slice none 0 0]) ?_ ?_ LF107.out ?_); exact rfl; exact rfl) | ((with_reducible refine shR_load (b := x60) (vs := [.int .i64 rc, .int .i64 jcb, .int .i64 jcg, .int .i64 jco, .int .i64 jcn, .int .i64 jce, .int .i64 jcf, .int .i64 jct, .int .i64 jcc, .slice rag rng rkg, .int .i64 jls, .int .i64 jlc, .int .i64 jlt, .int .i64 jr1, .int .i64 jr2, .int .i64 jr3, .int .i64 jr4, .int .i64 jr5, .int .i64 0, .int .i64 0, .int .i64 sb, .int .i64 sg, .slice none 0 0, .slice none 0 0, .slice none 0 0, .slice none 0 0]) ?_ ?_ LF108.out ?_); exact rfl; exact rfl))
  clear LF105 LF107 LF108
  refine (HT1.out _ K104.out).mono ?_
  rintro e0 w110 ⟨⟨G1h, rfl, ca⟩, hb⟩
  have K111 : Hid (Below w.heap.size w w110) := K104.out.trans (hb.mono K104.out.size)
  have F112 : Hid (At w.heap.size (w.heap.size + 1) (Bx w.heap.size [.int .i64 cb, .int .i64 cg, .int .i64 co, .int .i64 cn, .int .i64 ce, .int .i64 cf, .int .i64 ct, .int .i64 cc, .slice na nn nc, .int .i64 ls, .int .i64 lc, .int .i64 lt, .int .i64 r1, .int .i64 r2, .int .i64 r3, .int .i64 r4, .int .i64 r5]) w110) := F105.out.keep hb
  have F113 : Hid (At l11 h12 (CR ras rns rks) w110) := F106.out.keep hb
  have F114 : Hid (At x20 (x20 + 1) (Bx x20 [.int .i64 rc, .int .i64 jcb, .int .i64 jcg, .int .i64 jco, .int .i64 jcn, .int .i64 jce, .int .i64 jcf, .int .i64 jct, .int .i64 jcc, .slice ras rns rks, .int .i64 jls, .int .i64 jlc, .int .i64 jlt, .int .i64 jr1, .int .i64 jr2, .int .i64 jr3, .int .i64 jr4, .int .i64 jr5, .int .i64 0, .int .i64 0, .int .i64 sb, .int .i64 sg, .slice none 0 0, .slice none 0 0, .slice none 0 0, .slice none 0 0]) w110) := F107.out.keep hb
  have F115 : Hid (At x60 (x60 + 1) (Bx x60 [.int .i64 rc, .int .i64 jcb, .int .i64 jcg, .int .i64 jco, .int .i64 jcn, .int .i64 jce, .int .i64 jcf, .int .i64 jct, .int .i64 jcc, .slice rag rng rkg, .int .i64 jls, .int .i64 jlc, .int .i64 jlt, .int .i64 jr1, .int .i64 jr2, .int .i64 jr3, .int .i64 jr4, .int .i64 jr5, .int .i64 0, .int .i64 0, .int .i64 sb, .int .i64 sg, .slice none 0 0, .slice none 0 0, .slice none 0 0, .slice none 0 0]) w110) := F108.out.keep hb
  have F116 : Hid (At l40 h41 (MR rag rng rkg) w110) := F109.out.keep hb
  clear K104 F105 F106 F107 F108 F109 hb
  have CA_h : Hid (At w103.heap.size w110.heap.size (CA1 G1h) w110) := ca
  clear ca
  go_wp2_with fail
  refine (HG.out _ _ _ _ K111.out CA_h.out).mono ?_
  rintro e0 w117 ⟨⟨rah, rnh, rkh, rfl, cr⟩, hb⟩
  have K118 : Hid (Below w.heap.size w w117) := K111.out.trans (hb.mono K111.out.size)
  have F119 : Hid (At w.heap.size (w.heap.size + 1) (Bx w.heap.size [.int .i64 cb, .int .i64 cg, .int .i64 co, .int .i64 cn, .int .i64 ce, .int .i64 cf, .int .i64 ct, .int .i64 cc, .slice na nn nc, .int .i64 ls, .int .i64 lc, .int .i64 lt, .int .i64 r1, .int .i64 r2, .int .i64 r3, .int .i64 r4, .int .i64 r5]) w117) := F112.out.keep hb
  have F120 : Hid (At l11 h12 (CR ras rns rks) w117) := F113.out.keep hb
  have F121 : Hid (At x20 (x20 + 1) (Bx x20 [.int .i64 rc, .int .i64 jcb, .int .i64 jcg, .int .i64 jco, .int .i64 jcn, .int .i64 jce, .int .i64 jcf, .int .i64 jct, .int .i64 jcc, .slice ras rns rks, .int .i64 jls, .int .i64 jlc, .int .i64 jlt, .int .i64 jr1, .int .i64 jr2, .int .i64 jr3, .int .i64 jr4, .int .i64 jr5, .int .i64 0, .int .i64 0, .int .i64 sb, .int .i64 sg, .slice none 0 0, .slice none 0 0, .slice none 0 0, .slice none 0 0]) w117) := F114.out.keep hb
  have F122 : Hid (At x60 (x60 + 1) (Bx x60 [.int .i64 rc, .int .i64 jcb, .int .i64 jcg, .int .i64 jco, .int .i64 jcn, .int .i64 jce, .int .i64 jcf, .int .i64 jct, .int .i64 jcc, .slice rag rng rkg, .int .i64 jls, .int .i64 jlc, .int .i64 jlt, .int .i64 jr1, .int .i64 jr2, .int .i64 jr3, .int .i64 jr4, .int .i64 jr5, .int .i64 0, .int .i64 0, .int .i64 sb, .int .i64 sg, .slice none 0 0, .slice none 0 0, .slice none 0 0, .slice none 0 0]) w117) := F115.out.keep hb
  have F123 : Hid (At l40 h41 (MR rag rng rkg) w117) := F116.out.keep hb
  clear K111 F112 F113 F114 F115 F116 hb
  clear CA_h
  obtain ⟨l125, hl125⟩ : ∃ n, w110.heap.size = n := ⟨_, rfl⟩
  obtain ⟨h126, hh126⟩ : ∃ n, w117.heap.size = n := ⟨_, rfl⟩
  have F124 : Hid (At l125 h126 (CR rah rnh rkh) w117) := by rw [← hl125, ← hh126]; exact cr
  clear cr hl125 hh126
  obtain ⟨V128, hV128⟩ : ∃ V, V = w117.alloc (.cells #[.int .i64 rc, .int .i64 jcb, .int .i64 jcg, .int .i64 jco, .int .i64 jcn, .int .i64 jce, .int .i64 jcf, .int .i64 jct, .int .i64 jcc, .slice rah rnh rkh, .int .i64 jls, .int .i64 jlc, .int .i64 jlt, .int .i64 jr1, .int .i64 jr2, .int .i64 jr3, .int .i64 jr4, .int .i64 jr5, .int .i64 0, .int .i64 0, .int .i64 sb, .int .i64 sg, .slice none 0 0, .slice none 0 0, .slice none 0 0, .slice none 0 0] 54) := ⟨_, rfl⟩
  have HV128 : Hid (V128 = w117.alloc (.cells #[.int .i64 rc, .int .i64 jcb, .int .i64 jcg, .int .i64 jco, .int .i64 jcn, .int .i64 jce, .int .i64 jcf, .int .i64 jct, .int .i64 jcc, .slice rah rnh rkh, .int .i64 jls, .int .i64 jlc, .int .i64 jlt, .int .i64 jr1, .int .i64 jr2, .int .i64 jr3, .int .i64 jr4, .int .i64 jr5, .int .i64 0, .int .i64 0, .int .i64 sb, .int .i64 sg, .slice none 0 0, .slice none 0 0, .slice none 0 0, .slice none 0 0] 54)) := hV128
  have ab : Below w117.heap.size w117 V128 := by rw [hV128]; exact (Below.refl _ _).alloc (Nat.le_refl _) _
  have F129 : Hid (At w117.heap.size (w117.heap.size + 1) (Bx w117.heap.size [.int .i64 rc, .int .i64 jcb, .int .i64 jcg, .int .i64 jco, .int .i64 jcn, .int .i64 jce, .int .i64 jcf, .int .i64 jct, .int .i64 jcc, .slice rah rnh rkh, .int .i64 jls, .int .i64 jlc, .int .i64 jlt, .int .i64 jr1, .int .i64 jr2, .int .i64 jr3, .int .i64 jr4, .int .i64 jr5, .int .i64 0, .int .i64 0, .int .i64 sb, .int .i64 sg, .slice none 0 0, .slice none 0 0, .slice none 0 0, .slice none 0 0]) V128) := by rw [hV128]; exact Bx.new _ _ _
  have O130 : Hid ((w.heap.size + 1) ≤ w117.heap.size ∧ h12 ≤ w117.heap.size ∧ (x20 + 1) ≤ w117.heap.size ∧ (x60 + 1) ≤ w117.heap.size ∧ h41 ≤ w117.heap.size ∧ h126 ≤ w117.heap.size ∧ w.heap.size ≤ w117.heap.size) := ⟨F119.out.le, F120.out.le, F121.out.le, F122.out.le, F123.out.le, F124.out.le, K118.out.size⟩
  have K131 : Hid (Below w.heap.size w V128) := K118.out.trans (ab.mono K118.out.size)
  have F132 : Hid (At w.heap.size (w.heap.size + 1) (Bx w.heap.size [.int .i64 cb, .int .i64 cg, .int .i64 co, .int .i64 cn, .int .i64 ce, .int .i64 cf, .int .i64 ct, .int .i64 cc, .slice na nn nc, .int .i64 ls, .int .i64 lc, .int .i64 lt, .int .i64 r1, .int .i64 r2, .int .i64 r3, .int .i64 r4, .int .i64 r5]) V128) := F119.out.keep ab
  have F133 : Hid (At l11 h12 (CR ras rns rks) V128) := F120.out.keep ab
  have F134 : Hid (At x20 (x20 + 1) (Bx x20 [.int .i64 rc, .int .i64 jcb, .int .i64 jcg, .int .i64 jco, .int .i64 jcn, .int .i64 jce, .int .i64 jcf, .int .i64 jct, .int .i64 jcc, .slice ras rns rks, .int .i64 jls, .int .i64 jlc, .int .i64 jlt, .int .i64 jr1, .int .i64 jr2, .int .i64 jr3, .int .i64 jr4, .int .i64 jr5, .int .i64 0, .int .i64 0, .int .i64 sb, .int .i64 sg, .slice none 0 0, .slice none 0 0, .slice none 0 0, .slice none 0 0]) V128) := F121.out.keep ab
  have F135 : Hid (At x60 (x60 + 1) (Bx x60 [.int .i64 rc, .int .i64 jcb, .int .i64 jcg, .int .i64 jco, .int .i64 jcn, .int .i64 jce, .int .i64 jcf, .int .i64 jct, .int .i64 jcc, .slice rag rng rkg, .int .i64 jls, .int .i64 jlc, .int .i64 jlt, .int .i64 jr1, .int .i64 jr2, .int .i64 jr3, .int .i64 jr4, .int .i64 jr5, .int .i64 0, .int .i64 0, .int .i64 sb, .int .i64 sg, .slice none 0 0, .slice none 0 0, .slice none 0 0, .slice none 0 0]) V128) := F122.out.keep ab
  have F136 : Hid (At l40 h41 (MR rag rng rkg) V128) := F123.out.keep ab
  have F137 : Hid (At l125 h126 (CR rah rnh rkh) V128) := F124.out.keep ab
  clear K118 F119 F120 F121 F122 F123 F124
  clear ab hV128
  have LF132 := hidL F132.out.val.1
  have LF134 := hidL F134.out.val.1
  have LF135 := hidL F135.out.val.1
  have LF129 := hidL F129.out.val.1
  go_upto_region 25 with (first | ((with_reducible refine cfgL_load (b := w.heap.size) (vs := [.int .i64 cb, .int .i64 cg, .int .i64 co, .int .i64 cn, .int .i64 ce, .int .i64 cf, .int .i64 ct, .int .i64 cc, .slice na nn nc, .int .i64 ls, .int .i64 lc, .int .i64 lt, .int .i64 r1, .int .i64 r2, .int .i64 r3, .int .i64 r4, .int .i64 r5]) ?_ ?_ LF132.out ?_); exact rfl; exact rfl) | ((with_reducible refine shR_load (b := x20) (vs := [.int .i64 rc, .int .i64 jcb, .int .i64 jcg, .int .i64 jco, .int .i64 jcn, .int .i64 jce, .int .i64 jcf, .int .i64 jct, .int .i64 jcc, .slice ras rns rks, .int .i64 jls, .int .i64 jlc, .int .i64 jlt, .int .i64 jr1, .int .i64 jr2, .int .i64 jr3, .int .i64 jr4, .int .i64 jr5, .int .i64 0, .int .i64 0, .int .i64 sb, .int .i64 sg, .slice none 0 0, .slice none 0 0, .slice none 0 0, .slice none 0 0]) ?_ ?_ LF134.out ?_); exact rfl; exact rfl) | ((with_reducible refine shR_load (b := x60) (vs := [.int .i64 rc, .int .i64 jcb, .int .i64 jcg, .int .i64 jco, .int .i64 jcn, .int .i64 jce, .int .i64 jcf, .int .i64 jct, .int .i64 jcc, .slice rag rng rkg, .int .i64 jls, .int .i64 jlc, .int .i64 jlt, .int .i64 jr1, .int .i64 jr2, .int .i64 jr3, .int .i64 jr4, .int .i64 jr5, .int .i64 0, .int .i64 0, .int .i64 sb, .int .i64 sg, .slice none 0 0, .slice none 0 0, .slice none 0 0, .slice none 0 0]) ?_ ?_ LF135.out ?_); exact rfl; exact rfl) | ((with_reducible refine shR_load (b := w117.heap.size) (vs := [.int .i64 rc, .int .i64 jcb, .int .i64 jcg, .int .i64 jco, .int .i64 jcn, .int .i64 jce, .int .i64 jcf, .int .i64 jct, .int .i64 jcc, .slice rah rnh rkh, .int .i64 jls, .int .i64 jlc, .int .i64 jlt, .int .i64 jr1, .int .i64 jr2, .int .i64 jr3, .int .i64 jr4, .int .i64 jr5, .int .i64 0, .int .i64 0, .int .i64 sb, .int .i64 sg, .slice none 0 0, .slice none 0 0, .slice none 0 0, .slice none 0 0]) ?_ ?_ LF129.out ?_); exact rfl; exact rfl) | ((with_reducible refine shR_store (c' := #[.int .i64 rc, .int .i64 jcb, .int .i64 jcg, .int .i64 jco, .int .i64 jcn, .int .i64 jce, .int .i64 jcf, .int .i64 jct, .int .i64 jcc, .slice rah rnh rkh, .int .i64 jls, .int .i64 jlc, .int .i64 jlt, .int .i64 jr1, .int .i64 jr2, .int .i64 jr3, .int .i64 jr4, .int .i64 jr5, .int .i64 0, .int .i64 0, .int .i64 sb, .int .i64 sg, .slice none 0 0, .slice none 0 0, .slice none 0 0, .slice none 0 0]) ?_ ?_ ?_ ?_ ?_ ?_); exact rfl; exact rfl; exact rfl; exact rfl; exact rfl))
  clear LF132 LF134 LF135 LF129
  rw [← HV128.out]
  clear HV128
  generalize w117.heap.size = x138 at *
  clear HG
  have LF132 := hidL F132.out.val.1
  have LF134 := hidL F134.out.val.1
  have LF135 := hidL F135.out.val.1
  have LF129 := hidL F129.out.val.1
  go_wp2_with (first | ((with_reducible refine cfgL_load (b := w.heap.size) (vs := [.int .i64 cb, .int .i64 cg, .int .i64 co, .int .i64 cn, .int .i64 ce, .int .i64 cf, .int .i64 ct, .int .i64 cc, .slice na nn nc, .int .i64 ls, .int .i64 lc, .int .i64 lt, .int .i64 r1, .int .i64 r2, .int .i64 r3, .int .i64 r4, .int .i64 r5]) ?_ ?_ LF132.out ?_); exact rfl; exact rfl) | ((with_reducible refine shR_load (b := x20) (vs := [.int .i64 rc, .int .i64 jcb, .int .i64 jcg, .int .i64 jco, .int .i64 jcn, .int .i64 jce, .int .i64 jcf, .int .i64 jct, .int .i64 jcc, .slice ras rns rks, .int .i64 jls, .int .i64 jlc, .int .i64 jlt, .int .i64 jr1, .int .i64 jr2, .int .i64 jr3, .int .i64 jr4, .int .i64 jr5, .int .i64 0, .int .i64 0, .int .i64 sb, .int .i64 sg, .slice none 0 0, .slice none 0 0, .slice none 0 0, .slice none 0 0]) ?_ ?_ LF134.out ?_); exact rfl; exact rfl) | ((with_reducible refine shR_load (b := x60) (vs := [.int .i64 rc, .int .i64 jcb, .int .i64 jcg, .int .i64 jco, .int .i64 jcn, .int .i64 jce, .int .i64 jcf, .int .i64 jct, .int .i64 jcc, .slice rag rng rkg, .int .i64 jls, .int .i64 jlc, .int .i64 jlt, .int .i64 jr1, .int .i64 jr2, .int .i64 jr3, .int .i64 jr4, .int .i64 jr5, .int .i64 0, .int .i64 0, .int .i64 sb, .int .i64 sg, .slice none 0 0, .slice none 0 0, .slice none 0 0, .slice none 0 0]) ?_ ?_ LF135.out ?_); exact rfl; exact rfl) | ((with_reducible refine shR_load (b := x138) (vs := [.int .i64 rc, .int .i64 jcb, .int .i64 jcg, .int .i64 jco, .int .i64 jcn, .int .i64 jce, .int .i64 jcf, .int .i64 jct, .int .i64 jcc, .slice rah rnh rkh, .int .i64 jls, .int .i64 jlc, .int .i64 jlt, .int .i64 jr1, .int .i64 jr2, .int .i64 jr3, .int .i64 jr4, .int .i64 jr5, .int .i64 0, .int .i64 0, .int .i64 sb, .int .i64 sg, .slice none 0 0, .slice none 0 0, .slice none 0 0, .slice none 0 0]) ?_ ?_ LF129.out ?_); exact rfl; exact rfl))
  clear LF132 LF134 LF135 LF129
  refine (HEQ.out _ _ _ _ _ _ _ _ _ _ _ F137.out F133.out).mono ?_
  rintro e0 w139 ⟨rfl, hb⟩
  have K140 : Hid (Below w.heap.size w w139) := K131.out.trans (hb.mono K131.out.size)
  have F141 : Hid (At w.heap.size (w.heap.size + 1) (Bx w.heap.size [.int .i64 cb, .int .i64 cg, .int .i64 co, .int .i64 cn, .int .i64 ce, .int .i64 cf, .int .i64 ct, .int .i64 cc, .slice na nn nc, .int .i64 ls, .int .i64 lc, .int .i64 lt, .int .i64 r1, .int .i64 r2, .int .i64 r3, .int .i64 r4, .int .i64 r5]) w139) := F132.out.keep hb
  have F142 : Hid (At l11 h12 (CR ras rns rks) w139) := F133.out.keep hb
  have F143 : Hid (At x20 (x20 + 1) (Bx x20 [.int .i64 rc, .int .i64 jcb, .int .i64 jcg, .int .i64 jco, .int .i64 jcn, .int .i64 jce, .int .i64 jcf, .int .i64 jct, .int .i64 jcc, .slice ras rns rks, .int .i64 jls, .int .i64 jlc, .int .i64 jlt, .int .i64 jr1, .int .i64 jr2, .int .i64 jr3, .int .i64 jr4, .int .i64 jr5, .int .i64 0, .int .i64 0, .int .i64 sb, .int .i64 sg, .slice none 0 0, .slice none 0 0, .slice none 0 0, .slice none 0 0]) w139) := F134.out.keep hb
  have F144 : Hid (At x60 (x60 + 1) (Bx x60 [.int .i64 rc, .int .i64 jcb, .int .i64 jcg, .int .i64 jco, .int .i64 jcn, .int .i64 jce, .int .i64 jcf, .int .i64 jct, .int .i64 jcc, .slice rag rng rkg, .int .i64 jls, .int .i64 jlc, .int .i64 jlt, .int .i64 jr1, .int .i64 jr2, .int .i64 jr3, .int .i64 jr4, .int .i64 jr5, .int .i64 0, .int .i64 0, .int .i64 sb, .int .i64 sg, .slice none 0 0, .slice none 0 0, .slice none 0 0, .slice none 0 0]) w139) := F135.out.keep hb
  have F145 : Hid (At l40 h41 (MR rag rng rkg) w139) := F136.out.keep hb
  have F146 : Hid (At l125 h126 (CR rah rnh rkh) w139) := F137.out.keep hb
  have F147 : Hid (At x138 (x138 + 1) (Bx x138 [.int .i64 rc, .int .i64 jcb, .int .i64 jcg, .int .i64 jco, .int .i64 jcn, .int .i64 jce, .int .i64 jcf, .int .i64 jct, .int .i64 jcc, .slice rah rnh rkh, .int .i64 jls, .int .i64 jlc, .int .i64 jlt, .int .i64 jr1, .int .i64 jr2, .int .i64 jr3, .int .i64 jr4, .int .i64 jr5, .int .i64 0, .int .i64 0, .int .i64 sb, .int .i64 sg, .slice none 0 0, .slice none 0 0, .slice none 0 0, .slice none 0 0]) w139) := F129.out.keep hb
  clear K131 F132 F133 F134 F135 F136 F137 F129 hb
  have LF141 := hidL F141.out.val.1
  have LF143 := hidL F143.out.val.1
  have LF144 := hidL F144.out.val.1
  have LF147 := hidL F147.out.val.1
  go_wp2_with (first | ((with_reducible refine cfgL_load (b := w.heap.size) (vs := [.int .i64 cb, .int .i64 cg, .int .i64 co, .int .i64 cn, .int .i64 ce, .int .i64 cf, .int .i64 ct, .int .i64 cc, .slice na nn nc, .int .i64 ls, .int .i64 lc, .int .i64 lt, .int .i64 r1, .int .i64 r2, .int .i64 r3, .int .i64 r4, .int .i64 r5]) ?_ ?_ LF141.out ?_); exact rfl; exact rfl) | ((with_reducible refine shR_load (b := x20) (vs := [.int .i64 rc, .int .i64 jcb, .int .i64 jcg, .int .i64 jco, .int .i64 jcn, .int .i64 jce, .int .i64 jcf, .int .i64 jct, .int .i64 jcc, .slice ras rns rks, .int .i64 jls, .int .i64 jlc, .int .i64 jlt, .int .i64 jr1, .int .i64 jr2, .int .i64 jr3, .int .i64 jr4, .int .i64 jr5, .int .i64 0, .int .i64 0, .int .i64 sb, .int .i64 sg, .slice none 0 0, .slice none 0 0, .slice none 0 0, .slice none 0 0]) ?_ ?_ LF143.out ?_); exact rfl; exact rfl) | ((with_reducible refine shR_load (b := x60) (vs := [.int .i64 rc, .int .i64 jcb, .int .i64 jcg, .int .i64 jco, .int .i64 jcn, .int .i64 jce, .int .i64 jcf, .int .i64 jct, .int .i64 jcc, .slice rag rng rkg, .int .i64 jls, .int .i64 jlc, .int .i64 jlt, .int .i64 jr1, .int .i64 jr2, .int .i64 jr3, .int .i64 jr4, .int .i64 jr5, .int .i64 0, .int .i64 0, .int .i64 sb, .int .i64 sg, .slice none 0 0, .slice none 0 0, .slice none 0 0, .slice none 0 0]) ?_ ?_ LF144.out ?_); exact rfl; exact rfl) | ((with_reducible refine shR_load (b := x138) (vs := [.int .i64 rc, .int .i64 jcb, .int .i64 jcg, .int .i64 jco, .int .i64 jcn, .int .i64 jce, .int .i64 jcf, .int .i64 jct, .int .i64 jcc, .slice rah rnh rkh, .int .i64 jls, .int .i64 jlc, .int .i64 jlt, .int .i64 jr1, .int .i64 jr2, .int .i64 jr3, .int .i64 jr4, .int .i64 jr5, .int .i64 0, .int .i64 0, .int .i64 sb, .int .i64 sg, .slice none 0 0, .slice none 0 0, .slice none 0 0, .slice none 0 0]) ?_ ?_ LF147.out ?_); exact rfl; exact rfl))
  clear LF141 LF143 LF144 LF147
  refine (HHR.out _ _ _ _ _ _ F145.out).mono ?_
  rintro e0 w148 ⟨rfl, hb⟩
  have K149 : Hid (Below w.heap.size w w148) := K140.out.trans (hb.mono K140.out.size)
  have F150 : Hid (At w.heap.size (w.heap.size + 1) (Bx w.heap.size [.int .i64 cb, .int .i64 cg, .int .i64 co, .int .i64 cn, .int .i64 ce, .int .i64 cf, .int .i64 ct, .int .i64 cc, .slice na nn nc, .int .i64 ls, .int .i64 lc, .int .i64 lt, .int .i64 r1, .int .i64 r2, .int .i64 r3, .int .i64 r4, .int .i64 r5]) w148) := F141.out.keep hb
  have F151 : Hid (At l11 h12 (CR ras rns rks) w148) := F142.out.keep hb
  have F152 : Hid (At x20 (x20 + 1) (Bx x20 [.int .i64 rc, .int .i64 jcb, .int .i64 jcg, .int .i64 jco, .int .i64 jcn, .int .i64 jce, .int .i64 jcf, .int .i64 jct, .int .i64 jcc, .slice ras rns rks, .int .i64 jls, .int .i64 jlc, .int .i64 jlt, .int .i64 jr1, .int .i64 jr2, .int .i64 jr3, .int .i64 jr4, .int .i64 jr5, .int .i64 0, .int .i64 0, .int .i64 sb, .int .i64 sg, .slice none 0 0, .slice none 0 0, .slice none 0 0, .slice none 0 0]) w148) := F143.out.keep hb
  have F153 : Hid (At x60 (x60 + 1) (Bx x60 [.int .i64 rc, .int .i64 jcb, .int .i64 jcg, .int .i64 jco, .int .i64 jcn, .int .i64 jce, .int .i64 jcf, .int .i64 jct, .int .i64 jcc, .slice rag rng rkg, .int .i64 jls, .int .i64 jlc, .int .i64 jlt, .int .i64 jr1, .int .i64 jr2, .int .i64 jr3, .int .i64 jr4, .int .i64 jr5, .int .i64 0, .int .i64 0, .int .i64 sb, .int .i64 sg, .slice none 0 0, .slice none 0 0, .slice none 0 0, .slice none 0 0]) w148) := F144.out.keep hb
  have F154 : Hid (At l40 h41 (MR rag rng rkg) w148) := F145.out.keep hb
  have F155 : Hid (At l125 h126 (CR rah rnh rkh) w148) := F146.out.keep hb
  have F156 : Hid (At x138 (x138 + 1) (Bx x138 [.int .i64 rc, .int .i64 jcb, .int .i64 jcg, .int .i64 jco, .int .i64 jcn, .int .i64 jce, .int .i64 jcf, .int .i64 jct, .int .i64 jcc, .slice rah rnh rkh, .int .i64 jls, .int .i64 jlc, .int .i64 jlt, .int .i64 jr1, .int .i64 jr2, .int .i64 jr3, .int .i64 jr4, .int .i64 jr5, .int .i64 0, .int .i64 0, .int .i64 sb, .int .i64 sg, .slice none 0 0, .slice none 0 0, .slice none 0 0, .slice none 0 0]) w148) := F147.out.keep hb
  clear K140 F141 F142 F143 F144 F145 F146 F147 hb
  go_wp2_with fail
  go_ret
  exact ⟨rfl, K149.out⟩
end Go.Proofs.YtlbagfaiiileoaaGreatDoor
/-
  The program's shelves: pointers to what a store's lists hold.
-/
namespace Go.Proofs.YtlbagfaiiileoaaGreatDoor
open Go.ChangeShapes Go.WideShapes Go.ChangeAt Go.RowKit Go.Sort
/-- Handles of a list that came in at an address. -/
def hdlsA (a : Option Addr) (l : List (Ent × EntR)) : List Hdl :=
  match a with
  | some a => hdls a.block a.off l
  | none => hdls 0 0 l
theorem hdlsA_len (a : Option Addr) (l : List (Ent × EntR)) : (hdlsA a l).length = l.length := by
  unfold hdlsA; split <;> exact hdls_len _ _ _
theorem hdlsA_x (a : Option Addr) (l : List (Ent × EntR)) : (hdlsA a l).map Hdl.x = l.map Prod.fst := by
  unfold hdlsA; split <;> exact hdls_x _ _ _
theorem hdlsA_there {w : World} {a : Option Addr} {l : List (Ent × EntR)} (h : EntsIn w a l) : ∀ k ∈ hdlsA a l, HThere w k := by
  rcases h with rfl | ⟨b, off, rfl, h⟩
  · intro k hk
    have := List.length_pos_of_mem hk
    rw [hdlsA_len] at this
    simp at this
  · exact hdls_there h
set_option maxRecDepth 100000 in
set_option maxHeartbeats 8000000 in
theorem shelfOf_any (w : World) (a : Option Addr) (cap : Nat) (l : List (Ent × EntR)) (hl : l.length ≤ 1048576) (hi : EntsIn w a l) :
    Calls Tryz.prog 169 #[.slice a l.length cap] w fun e w' => (∃ v, e = .returned (.agg #[v]) ∧ OwnP w' w.heap.size v (hdlsA a l)) ∧ Below w.heap.size w w' := by
  obtain ⟨i0, hi0, hz0, hz1, hz2⟩ := info_parts infoPtr
  have hlen := hdlsA_len a l
  have HPS : Hid (∀ (k : Nat), k < l.length → ∃ b off, a = some ⟨b, off, none⟩ ∧ ((hdlsA a l).map hP)[k]? = some (.pointer (some ⟨b, off + k * 13, none⟩))) := by
    intro k hk
    rcases hi with rfl | ⟨b, off, rfl, h⟩
    · simp at hk
    · refine ⟨b, off, rfl, ?_⟩
      rw [List.getElem?_map]
      show Option.map hP ((hdls b off l)[k]?) = _
      rw [hdls_at (List.getElem?_eq_getElem hk)]
      rfl
  clear hi
  obtain ⟨ps, hps⟩ : ∃ ps, Hid ((hdlsA a l).map hP = ps) := ⟨_, rfl⟩
  have hpl : ps.length = l.length := by rw [← hps.out, List.length_map, hlen]
  rw [hps.out] at HPS
  have HO : Hid (∀ w' v, w'.ownsRow w.heap.size 187 1 v l.length ps → OwnP w' w.heap.size v (hdlsA a l)) := fun w' v h => by
    unfold OwnP
    rw [hlen, hps.out]
    exact h
  clear hps hlen
  generalize hn : l.length = n at *
  clear hn
  have HPL : Hid (ps.length = n) := hpl
  clear hpl
  have BA : Hid (Below w.heap.size w (w.alloc (.cells #[.slice none 0 0] 182))) := (Below.refl _ _).alloc (Nat.le_refl _) _
  obtain ⟨V, hV⟩ : ∃ V, V = w.alloc (.cells #[.slice none 0 0] 182) := ⟨_, rfl⟩
  have HV : Hid (V = w.alloc (.cells #[.slice none 0 0] 182)) := hV
  have hVs : V.heap.size = w.heap.size + 1 := by rw [hV]; simp
  have hVc : V.cell? ⟨w.heap.size, 0, none⟩ = some (.slice none 0 0) := by rw [hV]; simp
  have hVf : V.frozen? ⟨w.heap.size, 0, none⟩ = false := by rw [hV]; simp
  rw [← HV.out] at BA
  clear hV
  go_enter Tryz.func169, Tryz.ntmps169
  go_wp2_with (at_make; rw [← HV.out]; refine wpList_make_full V rfl _ _ 180 rfl (w.heap.size + 1) 187 i0 _ 1 Tryz.underlying180 hi0 hz0 hz1 _ _ _ _ n rfl rfl rfl rfl (by rw [hz2]; omega) (by unfold maxLen; omega) (by rw [hVs]; exact Nat.le_refl _) ?_; intro w1 hown hgrow)
  try rw [hVs] at hown
  rw [made_one (.pointer none) rfl] at hown
  have HR1 : Hid (w1.ownsRow (w.heap.size + 1) 187 1 (.slice (some ⟨w.heap.size + 1, 0, none⟩) n n) n (List.replicate n (.pointer none)) ∧ w1.cell? ⟨w.heap.size, 0, none⟩ = some (.slice none 0 0) ∧ w1.frozen? ⟨w.heap.size, 0, none⟩ = false ∧ Below w.heap.size w w1) := by
    have bV : Below V.heap.size V w1 := (Below.refl _ _).grown hgrow (Nat.le_refl _) (fun q hq => by cases hq)
    exact ⟨hown, by rw [bV.cell (p := ⟨w.heap.size, 0, none⟩) (by rw [hVs]; exact Nat.lt_succ_self _)]; exact hVc, by rw [bV.frozen (p := ⟨w.heap.size, 0, none⟩) (by rw [hVs]; exact Nat.lt_succ_self _)]; exact hVf, BA.out.trans (bV.mono BA.out.size)⟩
  clear hown hgrow hVs hVc hVf HV BA
  go_loopw [10] (fun i wr => ∃ k : Nat, k ≤ n ∧ i = .int .i64 k ∧ wr.ownsRow (w.heap.size + 1) 187 1 (.slice (some ⟨w.heap.size + 1, 0, none⟩) n n) n (ps.take k ++ List.replicate (n - k) (.pointer none)) ∧ wr.cell? ⟨w.heap.size, 0, none⟩ = some (.slice none 0 0) ∧ wr.frozen? ⟨w.heap.size, 0, none⟩ = false ∧ Below w.heap.size w wr) (fun i _ => n - (intOf i).toNat)
  case atStart => exact ⟨0, Nat.zero_le _, rfl, by simpa using HR1.out.1, HR1.out.2.1, HR1.out.2.2.1, HR1.out.2.2.2⟩
  case round =>
    obtain ⟨k, hk, rfl, hrow, hc, hf, hb⟩ := hrel
    clear HR1
    by_cases hlt : k < n
    · obtain ⟨b, off, rfl, hp⟩ := HPS.out k hlt
      have cg := hrow.cellAt k (by omega)
      have hfg := hrow.frozenAt k
      obtain ⟨u, hu⟩ : ∃ u, (ps.take k ++ List.replicate (n - k) (Value.pointer none))[k]? = some u := ⟨_, List.getElem?_eq_getElem (by have := HPL.out; simp; omega)⟩
      rw [hu] at cg
      have HN : Hid ((wr.setCell ⟨w.heap.size + 1, k, none⟩ (.pointer (some ⟨b, off + k * 13, none⟩))).ownsRow (w.heap.size + 1) 187 1 (.slice (some ⟨w.heap.size + 1, 0, none⟩) n n) n (ps.take (k + 1) ++ List.replicate (n - (k + 1)) (.pointer none))) := by
        have := (hrow.stored k (.pointer (some ⟨b, off + k * 13, none⟩))).1
        have e := set_fill (z := .pointer none) ps k _ hp
        rw [HPL.out] at e
        rw [e] at this
        exact this
      have HC : Hid ((wr.setCell ⟨w.heap.size + 1, k, none⟩ (.pointer (some ⟨b, off + k * 13, none⟩))).cell? ⟨w.heap.size, 0, none⟩ = some (.slice none 0 0) ∧ (wr.setCell ⟨w.heap.size + 1, k, none⟩ (.pointer (some ⟨b, off + k * 13, none⟩))).frozen? ⟨w.heap.size, 0, none⟩ = false ∧ Below w.heap.size w (wr.setCell ⟨w.heap.size + 1, k, none⟩ (.pointer (some ⟨b, off + k * 13, none⟩)))) := by
        refine ⟨?_, by rw [World.frozen?_setCell]; exact hf, hb.setCell (by simp) _⟩
        rw [World.cell?_setCell_other _ _ _ _ (by intro q; have := congrArg Addr.block q; simp only at this; omega)]
        exact hc
      have g : (k : Int) < n := by omega
      have g0 : (0 : Int) ≤ k := by omega
      clear hrow hu hp hc hf hb HPS
      go_wp2_with fail
      go_roundw
      case rel => exact ⟨k + 1, by omega, by go_num, HN.out, HC.out.1, HC.out.2.1, HC.out.2.2⟩
      case measure => simp [intOf]; omega
    · have hkn : k = n := by omega
      subst hkn
      have HF : Hid (∀ u, (wr.setCell ⟨w.heap.size, 0, none⟩ u).ownsRow w.heap.size 187 1 (.slice (some ⟨w.heap.size + 1, 0, none⟩) k k) k ps ∧ Below w.heap.size w (wr.setCell ⟨w.heap.size, 0, none⟩ u)) := by
        intro u
        rw [Nat.sub_self, List.replicate_zero, List.append_nil, List.take_of_length_le (by rw [HPL.out]; exact Nat.le_refl _)] at hrow
        have z := row_off hrow (b := w.heap.size) (i := 0) u (by omega)
        obtain ⟨z1, z2⟩ := z
        refine ⟨⟨z1, ?_⟩, hb.setCell (Nat.le_refl _) _⟩
        rcases z2 with z2 | ⟨g, c, cur, e', hg, hrest⟩
        · exact .inl z2
        · exact .inr ⟨g, c, cur, e', by omega, hrest⟩
      clear hrow hb
      go_wp2_with fail
      exact bodyPost_ret (v := .agg #[.slice (some ⟨w.heap.size + 1, 0, none⟩) k k]) (by simp [results, Tryz.results169, go_sem, hc]) rfl ⟨⟨_, rfl, HO.out _ _ (HF.out _).1⟩, (HF.out _).2⟩
end Go.Proofs.YtlbagfaiiileoaaGreatDoor
/-
  The program's two shelves of a store.
-/
namespace Go.Proofs.YtlbagfaiiileoaaGreatDoor
open Go.ChangeShapes Go.WideShapes Go.ChangeAt Go.RowKit Go.Sort
theorem OwnP.off1 {w : World} {base : Nat} {v : Value} {l : List Hdl} (h : OwnP w base v l) {b i : Nat} (u : Value) (hb : b < base) : OwnP (w.setCell ⟨b, i, none⟩ u) base v l := row_off h u hb
theorem OwnP.lt {w : World} {base : Nat} {v : Value} {l : List Hdl} (h : OwnP w base v l) (q : Nat) (hq : v.ownBlock = some q) : q < w.heap.size := (World.ownsRow.lt h q hq).2
/-- TwoP rows of pointers, one's own and apart. -/
structure TwoP (w : World) (base : Nat) (v1 v2 : Value) (l1 l2 : List Hdl) : Prop where
  a : OwnP w base v1 l1
  b : OwnP w base v2 l2
  ne : v1.ownBlock = none ∨ v1.ownBlock ≠ v2.ownBlock
theorem TwoP.below {w w' : World} {base : Nat} {v1 v2 : Value} {l1 l2 : List Hdl} (h : TwoP w base v1 v2 l1 l2) (hb : Below w.heap.size w w') : TwoP w' base v1 v2 l1 l2 := ⟨h.a.below hb, h.b.below hb, h.ne⟩
theorem TwoP.off1 {w : World} {base : Nat} {v1 v2 : Value} {l1 l2 : List Hdl} (h : TwoP w base v1 v2 l1 l2) {b i : Nat} (u : Value) (hb : b < base) : TwoP (w.setCell ⟨b, i, none⟩ u) base v1 v2 l1 l2 := ⟨h.a.off1 u hb, h.b.off1 u hb, h.ne⟩
theorem TwoP.lower {w : World} {b0 base : Nat} {v1 v2 : Value} {l1 l2 : List Hdl} (h : TwoP w base v1 v2 l1 l2) (hb : b0 ≤ base) : TwoP w b0 v1 v2 l1 l2 := ⟨h.a.lower hb, h.b.lower hb, h.ne⟩
set_option maxRecDepth 100000 in
set_option maxHeartbeats 8000000 in
theorem shelvesOf_any (w : World) (bu gu : Int) (ta ka : Option Addr) (tc kc : Nat) (tl kl : List (Ent × EntR)) (hl : tl.length ≤ 1048576) (hk : kl.length ≤ 1048576) (ht : EntsIn w ta tl) (hq : EntsIn w ka kl) :
    Calls Tryz.prog 105 #[.agg #[.int .i64 bu, .int .i64 gu, .slice ta tl.length tc, .slice ka kl.length kc]] w fun e w' => (∃ v1 v2, e = .returned (.agg #[v1, v2]) ∧ TwoP w' w.heap.size v1 v2 (hdlsA ta tl) (hdlsA ka kl)) ∧ Below w.heap.size w w' := by
  have HC1 : Hid (∀ X, Below w.heap.size w X → Calls Tryz.prog 169 #[.slice ta tl.length tc] X fun e w' => (∃ v, e = .returned (.agg #[v]) ∧ OwnP w' X.heap.size v (hdlsA ta tl)) ∧ Below X.heap.size X w') := fun X hX => shelfOf_any X ta tc tl hl (ht.keep hX)
  have HC2 : Hid (∀ X, Below w.heap.size w X → Calls Tryz.prog 169 #[.slice ka kl.length kc] X fun e w' => (∃ v, e = .returned (.agg #[v]) ∧ OwnP w' X.heap.size v (hdlsA ka kl)) ∧ Below X.heap.size X w') := fun X hX => shelfOf_any X ka kc kl hk (hq.keep hX)
  obtain ⟨W, hW⟩ : ∃ W, W = (w.alloc (.cells #[.int .i64 bu, .int .i64 gu, .slice ta tl.length tc, .slice ka kl.length kc] 44)).alloc (.cells #[.slice none 0 0, .slice none 0 0] 184) := ⟨_, rfl⟩
  have HW : Hid (W = (w.alloc (.cells #[.int .i64 bu, .int .i64 gu, .slice ta tl.length tc, .slice ka kl.length kc] 44)).alloc (.cells #[.slice none 0 0, .slice none 0 0] 184)) := hW
  have K0 : Hid (Below w.heap.size w W ∧ S4 W w.heap.size (.int .i64 bu) (.int .i64 gu) (.slice ta tl.length tc) (.slice ka kl.length kc) ∧ (W.cell? ⟨w.heap.size + 1, 0, none⟩ = some (.slice none 0 0) ∧ W.cell? ⟨w.heap.size + 1, 1, none⟩ = some (.slice none 0 0) ∧ (∀ o, W.frozen? ⟨w.heap.size + 1, o, none⟩ = false)) ∧ W.heap.size = w.heap.size + 2) := by
    rw [hW]
    refine ⟨((Below.refl _ _).alloc (Nat.le_refl _) _).alloc (by simp) _, (S4.new w _ _ _ _ _).keep ((Below.refl _ _).alloc (Nat.le_refl _) _), ⟨by simp, by simp, fun o => by simp⟩, by simp⟩
  clear hW ht hq hl hk
  generalize tl.length = tn at *
  generalize kl.length = kn at *
  have HK : Hid (∀ X, Below W.heap.size W X → Below w.heap.size w X ∧ S4 X w.heap.size (.int .i64 bu) (.int .i64 gu) (.slice ta tn tc) (.slice ka kn kc) ∧ (X.cell? ⟨w.heap.size + 1, 0, none⟩ = some (.slice none 0 0) ∧ X.cell? ⟨w.heap.size + 1, 1, none⟩ = some (.slice none 0 0) ∧ (∀ o, X.frozen? ⟨w.heap.size + 1, o, none⟩ = false)) ∧ w.heap.size + 2 ≤ X.heap.size) := fun X hX => by
    have hs := K0.out.2.2.2
    have hz := hX.size
    refine ⟨K0.out.1.trans (hX.mono K0.out.1.size), K0.out.2.1.keep hX, ⟨?_, ?_, fun o => ?_⟩, by omega⟩
    · rw [hX.cell (p := ⟨w.heap.size + 1, 0, none⟩) (by simp only; omega)]; exact K0.out.2.2.1.1
    · rw [hX.cell (p := ⟨w.heap.size + 1, 1, none⟩) (by simp only; omega)]; exact K0.out.2.2.1.2.1
    · rw [hX.frozen (p := ⟨w.heap.size + 1, o, none⟩) (by simp only; omega)]; exact K0.out.2.2.1.2.2 o
  clear K0
  have HKS : Hid (∀ X, Below W.heap.size W X → (X.cell? ⟨w.heap.size, 2, none⟩ = some (.slice ta tn tc) ∧ X.cell? ⟨w.heap.size, 3, none⟩ = some (.slice ka kn kc))) := fun X hX => ⟨(HK.out X hX).2.1.c2, (HK.out X hX).2.1.c3⟩
  have HKT : Hid (∀ X u v, Below W.heap.size W X → (((X.setCell ⟨w.heap.size + 1, 0, none⟩ u).setCell ⟨w.heap.size + 1, 1, none⟩ v).cell? ⟨w.heap.size, 2, none⟩ = some (.slice ta tn tc) ∧ ((X.setCell ⟨w.heap.size + 1, 0, none⟩ u).setCell ⟨w.heap.size + 1, 1, none⟩ v).cell? ⟨w.heap.size, 3, none⟩ = some (.slice ka kn kc))) := fun X u v hX => ⟨(((HK.out X hX).2.1.off (by omega)).off (by omega)).c2, (((HK.out X hX).2.1.off (by omega)).off (by omega)).c3⟩
  have B0 : Hid (Below W.heap.size W W.drew) := (Below.refl _ _).drew
  go_enter Tryz.func105, Tryz.ntmps105
  go_wp2_with fail
  rw [← HW.out]
  clear HW
  go_region_held3 (fun X => X.cell? ⟨w.heap.size, 2, none⟩ = some (.slice ta tn tc) ∧ X.cell? ⟨w.heap.size, 3, none⟩ = some (.slice ka kn kc))
    (first | ((with_reducible refine HKS.out _ ?_); (with_reducible exact BB.out)) | ((with_reducible refine HKS.out _ ?_); (with_reducible exact BA.out)) | ((with_reducible refine HKS.out _ ?_); (with_reducible exact B0.out)) | ((with_reducible refine HKT.out _ _ _ ?_); (with_reducible exact BB.out)))
    (first
    | (go_at_call 169; have hBA := BA; refine (HC2.out _ (HK.out _ BA.out).1).mono ?_; rintro r0 wb ⟨⟨v2, rfl, ho2⟩, hbb⟩; obtain ⟨a2, k2, rfl, _⟩ := ho2.form; have BB : Hid (Below W.heap.size W wb) := BA.out.trans (hbb.mono BA.out.size); have TT : Hid (TwoP wb (w.heap.size + 2) _ (.slice a2 (hdlsA ka kl).length k2) (hdlsA ta tl) (hdlsA ka kl)) := ⟨OA.out.below hbb, ho2.lower (HK.out _ BA.out).2.2.2, (by
          cases e : Value.ownBlock _ with
          | none => exact .inl rfl
          | some q =>
            refine .inr fun e2 => ?_
            have h1 := OA.out.lt q e
            have h2 := own_geP ho2 q e2.symm
            omega)⟩; obtain ⟨c0, c1, cf⟩ := (HK.out _ BB.out).2.2.1; have cf0 := cf 0; have cf1 := cf 1; clear cf; clear hbb ho2 hBA)
    | (go_at_call 169; refine (HC1.out _ (HK.out _ B0.out).1).mono ?_; rintro r0 wa ⟨⟨v1, rfl, ho1⟩, hba⟩; obtain ⟨a1, k1, rfl, _⟩ := ho1.form; have BA : Hid (Below W.heap.size W wa) := B0.out.trans (hba.mono B0.out.size); have OA : Hid (OwnP wa (w.heap.size + 2) (.slice a1 (hdlsA ta tl).length k1) (hdlsA ta tl)) := ho1.lower (HK.out _ B0.out).2.2.2; clear hba ho1))
  all_goals
    have KZ : Hid (∀ u v, TwoP ((wb.setCell ⟨w.heap.size + 1, 0, none⟩ u).setCell ⟨w.heap.size + 1, 1, none⟩ v) w.heap.size (.slice a1 (hdlsA ta tl).length k1) (.slice a2 (hdlsA ka kl).length k2) (hdlsA ta tl) (hdlsA ka kl) ∧ Below w.heap.size w ((wb.setCell ⟨w.heap.size + 1, 0, none⟩ u).setCell ⟨w.heap.size + 1, 1, none⟩ v)) := fun u v => ⟨((TT.out.off1 u (by omega)).off1 v (by omega)).lower (by omega), ((HK.out _ BB.out).1.setCell (by simp) _).setCell (by simp) _⟩
    go_wp2_with fail
    exact bodyPost_ret (v := .agg #[.slice a1 (hdlsA ta tl).length k1, .slice a2 (hdlsA ka kl).length k2]) (by simp [results, Tryz.results105, go_sem, c0, c1]) rfl ⟨⟨_, _, rfl, (KZ.out _ _).1⟩, (KZ.out _ _).2⟩
end Go.Proofs.YtlbagfaiiileoaaGreatDoor
/-
  Rows of pointers: slices.Grow of nothing, slices.Concat of two, and all of a store's shelves.
-/
namespace Go.Proofs.YtlbagfaiiileoaaGreatDoor
open Go.ChangeShapes Go.WideShapes Go.ChangeAt Go.RowKit Go.Sort
theorem appendP_zero {P : Program} (w : World) (t ty e : TypeId) (i : TypeInfo) (ht : P.underlying t = some (.slice e)) (hi : P.info? e = some i) (base : Option Addr) (n k : Nat) (hle : n ≤ k) (pb : Option Addr) (c : Nat) :
    (Builtin.append_ #[t, t] ty #[.slice base n k, .slice pb 0 c]).run P w = .ok (.slice base n k) w := by
  cases base <;> cases pb <;> simp [Builtin.append_, run_underlying ht, sizeOf, typeInfo, hi, Builtin.lenOf, Builtin.firstCells, hle, storeCells, loadCells, loadCellsFrom]
theorem wpList_append_ptrs {ops : Array Oper} {rest : List Oper} {o : Oper} {a : Act} {Q : Exit → Act → World → Prop} (w : World) (hgd : o.guard = none) (s x : Operand)
    (ho : o.op = .call { callee := .builtin .append, args := #[s, x], argTypes := #[180, 180] })
    (base : Nat) (v : Value) (l0 : List Hdl) (b0 : Nat) (u : Value) (l : List Hdl)
    (hs : a.eval s = v) (hown : OwnP w base v l0) (hx : a.eval x = u) (hat : OwnP w b0 u l) (hl : l0.length + l.length ≤ 1000000) (hbase : base ≤ w.heap.size)
    (h : ∀ v' w', OwnP w' base v' (l0 ++ l) → Below base w w' → wpList Tryz.prog ops Q rest (a.put o.dst v') w') :
    wpList Tryz.prog ops Q (o :: rest) a w := by
  obtain ⟨i0, hi, hz0, hz1, hz2⟩ := info_parts infoPtr
  obtain ⟨va, vc, rfl, hle, _⟩ := hown.form
  obtain ⟨ua, uc, rfl, hle2, hf⟩ := hat.form
  rcases hf with e | ⟨g, rfl, _, _, hc⟩
  · subst e
    refine wpList_plain hgd fun K hK => ?_
    unfold Oper.wp execOp
    simp only [ho, resolve, invoke, builtin, Sem.run_bind, Sem.run_pure, Result.andThen_ok, List.map_toArray, List.map_cons, List.map_nil, hs, hx, List.length_nil]
    rw [appendP_zero w 180 _ 187 i0 Tryz.underlying180 hi va l0.length vc hle ua uc]
    exact hK _ _ (h _ w (by simpa using hown) (Below.refl _ _))
  · by_cases h0 : 0 < l.length
    · refine wpList_append_lies w hgd s x 180 ho base 187 i0 _ 1 8 Tryz.underlying180 hi hz0 hz1 hz2 rfl (by omega) _ l0.length (l0.map hP) hs hown ⟨g, 0, none⟩ l.length uc (l.map hP) hx (by simp) ?_ (ptr_one l) h0 (by unfold maxLen; omega) (by omega) hbase _ rfl ?_
      · intro j y hj
        rw [List.getElem?_map] at hj
        obtain ⟨k, hk, rfl⟩ := Option.map_eq_some_iff.1 hj
        have hadd : (⟨g, 0, none⟩ : Addr).add j = ⟨g, j, none⟩ := by unfold Addr.add; split <;> simp_all
        rw [hadd]
        exact hc j k hk
      · intro g' c w' h1 h2 h3 h4
        refine h _ w' ?_ ((Below.refl base w).grown h2 hbase (fun q hq => own_geP hown q hq))
        unfold OwnP
        rw [List.length_append, List.map_append]
        exact h1
    · have e : l = [] := List.eq_nil_of_length_eq_zero (by omega)
      subst e
      refine wpList_plain hgd fun K hK => ?_
      unfold Oper.wp execOp
      simp only [ho, resolve, invoke, builtin, Sem.run_bind, Sem.run_pure, Result.andThen_ok, List.map_toArray, List.map_cons, List.map_nil, hs, hx, List.length_nil]
      rw [appendP_zero w 180 _ 187 i0 Tryz.underlying180 hi va l0.length vc hle _ uc]
      exact hK _ _ (h _ w (by simpa using hown) (Below.refl _ _))
set_option maxHeartbeats 4000000 in
theorem growP_nil (w : World) (n : Nat) (hn : n ≤ 1048576) :
    Calls Tryz.prog 219 #[.slice none 0 0, .int .i64 (n : Int)] w fun e w' => (∃ v, e = .returned v ∧ OwnP w' w.heap.size v []) ∧ Below w.heap.size w w' := by
  by_cases h0 : n = 0
  · subst h0
    go_enter Tryz.func219, Tryz.ntmps219
    go_wp2_with fail
    go_ret
    exact ⟨⟨_, rfl, OwnP.nil _ _⟩, Below.refl _ _⟩
  · obtain ⟨i0, hi, hz0, hz1, hz2⟩ := info_parts infoPtr
    have g : (0 : Int) < (n : Int) := by omega
    have g2 : ¬ (n : Int) < 0 := by omega
    obtain ⟨c, hc⟩ : ∃ c, grownCap w n 0 187 = c := ⟨_, rfl⟩
    obtain ⟨ROW, hROW⟩ : ∃ R : Array Value, Builtin.zeroCells (Value.pointer none).cells n ++ Builtin.zeroCells (Value.pointer none).cells (c - n) = R := ⟨_, rfl⟩
    have hrz : ∀ ty, (Builtin.append_ #[180, 3] ty #[.slice none 0 0, .int .i64 (n : Int)]).run Tryz.prog w = .ok (.slice (some ⟨w.heap.size, 0, none⟩) n c) (w.drew.alloc (.cells ROW 187)) := fun ty => by
      have h := Lib.run_append_nil_zeros w 180 3 ty 187 i0 _ .i64 .i64 Tryz.underlying180 Tryz.underlying3 hi hz0 n (by omega) (by rw [hz1]; omega) (by omega) (by rw [hz2]; omega)
      rw [hc, hROW] at h
      exact h
    have hcn : n ≤ c := by rw [← hc]; exact grownCap_ge w _ _ _
    have hcm : c ≤ maxLen := by rw [← hc]; exact grownCap_le_maxLen w _ _ _ (by unfold maxLen; omega)
    have hsz : ROW.size = c * 1 := by
      rw [← hROW, Array.size_append, size_zeroCells, size_zeroCells]
      have : (Value.pointer none).cells.size = 1 := rfl
      rw [this]
      omega
    have HO : Hid (OwnP (w.drew.alloc (.cells ROW 187)) w.heap.size (.slice (some ⟨w.heap.size, 0, none⟩) 0 c) []) := World.ownsRow_made w.drew ROW c (Nat.le_refl _) hcm hsz
    have HB : Hid (Below w.heap.size w (w.drew.alloc (.cells ROW 187))) := ((Below.refl _ _).drew).alloc (Nat.le_refl _) _
    have gc : (0 : Int) ≤ (c : Int) := by omega
    clear hROW hc hsz hcn hcm hz0 hz1 hz2 hi
    go_enter Tryz.func219, Tryz.ntmps219
    go_wp2_with (at_builtin; refine Lib.wpList_append_run _ rfl (.tmp 20) (.tmp 21) _ _ rfl _ _ rfl rfl _ _ (hrz _) ?_)
    go_ret
    exact ⟨⟨_, rfl, HO.out⟩, HB.out⟩
end Go.Proofs.YtlbagfaiiileoaaGreatDoor
/-
  slices.Concat of two rows of pointers, and all of a store's shelves.
-/
namespace Go.Proofs.YtlbagfaiiileoaaGreatDoor
open Go.ChangeShapes Go.WideShapes Go.ChangeAt Go.RowKit Go.Sort
set_option maxRecDepth 100000 in
set_option maxHeartbeats 8000000 in
theorem concatP_any (w : World) (L : Nat) (v1 v2 : Value) (b1 b2 : Nat) (l1 l2 : List Hdl) (c0 : w.cell? ⟨L, 0, none⟩ = some v1) (c1 : w.cell? ⟨L, 1, none⟩ = some v2) (h1 : OwnP w b1 v1 l1) (h2 : OwnP w b2 v2 l2) (hl : l1.length + l2.length ≤ 1000000) :
    Calls Tryz.prog 170 #[.slice (some ⟨L, 0, none⟩) 2 2] w fun e w' => (∃ v, e = .returned v ∧ OwnP w' w.heap.size v (l1 ++ l2)) ∧ Below w.heap.size w w' := by
  have H1 : Hid (∀ X, Below w.heap.size w X → OwnP X b1 v1 l1 ∧ OwnP X b2 v2 l2 ∧ X.cell? ⟨L, 0, none⟩ = some v1 ∧ X.cell? ⟨L, 1, none⟩ = some v2) := fun X hX => by
    have hlt : L < w.heap.size := block_lt_of_cell c0
    exact ⟨h1.below hX, h2.below hX, by rw [hX.cell (p := ⟨L, 0, none⟩) hlt]; exact c0, by rw [hX.cell (p := ⟨L, 1, none⟩) hlt]; exact c1⟩
  have HG : Hid (∀ X (n : Nat), n ≤ 1048576 → Calls Tryz.prog 219 #[.slice none 0 0, .int .i64 (n : Int)] X fun e w' => (∃ v, e = .returned v ∧ OwnP w' X.heap.size v []) ∧ Below X.heap.size X w') := fun X n hn => growP_nil X n hn
  obtain ⟨a1, k1, e1, _⟩ := h1.form
  obtain ⟨a2, k2, e2, _⟩ := h2.form
  obtain ⟨n1, hn1⟩ : ∃ n, Hid (l1.length = n) := ⟨_, rfl⟩
  obtain ⟨n2, hn2⟩ : ∃ n, Hid (l2.length = n) := ⟨_, rfl⟩
  rw [hn1.out] at e1
  rw [hn2.out] at e2
  rw [hn1.out, hn2.out] at hl
  subst e1
  subst e2
  clear c0 c1 h1 h2
  go_enter Tryz.func170, Tryz.ntmps170
  go_wp2_with fail
  go_loopw [3, 11] (fun x i wr => wr = w ∧ ((i = .int .i64 0 ∧ x = .int .i64 0) ∨ (i = .int .i64 1 ∧ x = .int .i64 (n1 : Int)) ∨ (i = .int .i64 2 ∧ x = .int .i64 ((n1 : Int) + (n2 : Int))))) (fun _ i _ => 2 - (intOf i).toNat)
  case atStart => exact ⟨rfl, .inl ⟨rfl, rfl⟩⟩
  case round =>
    obtain ⟨rfl, hrel⟩ := hrel
    obtain ⟨_, _, p0, p1⟩ := H1.out _ (Below.refl _ _)
    rcases hrel with ⟨rfl, rfl⟩ | ⟨rfl, rfl⟩ | ⟨rfl, rfl⟩
    · have e1 : IntKind.i64.wrap (0 + (n1 : Int)) = (n1 : Int) := by unfold IntKind.wrap; simp [IntKind.signed, IntKind.bits]; omega
      have g : ¬ (n1 : Int) < 0 := by omega
      go_wp2_with fail
      go_roundw
      case rel => exact ⟨by trivial, .inr (.inl ⟨rfl, rfl⟩)⟩
      case measure => simp [intOf]
    · have e1 : IntKind.i64.wrap ((n1 : Int) + (n2 : Int)) = (n1 : Int) + (n2 : Int) := by unfold IntKind.wrap; simp [IntKind.signed, IntKind.bits]; omega
      have g : ¬ (n1 : Int) + (n2 : Int) < 0 := by omega
      go_wp2_with fail
      go_roundw
      case rel => exact ⟨by trivial, .inr (.inr ⟨rfl, rfl⟩)⟩
      case measure => simp [intOf]
    · have C := HG.out wr (n1 + n2) (by omega)
      rw [Int.natCast_add] at C
      go_wp2_with fail
      refine C.mono ?_
      rintro r w1 ⟨⟨v, rfl, ho⟩, hb1⟩
      obtain ⟨va, vc, rfl, _⟩ := ho.form
      simp only [List.length_nil] at ho ⊢
      have HB1 : Hid (Below wr.heap.size wr w1) := hb1
      have HO1 : Hid (OwnP w1 wr.heap.size (.slice va 0 vc) []) := ho
      clear C hb1 ho p0 p1
      go_wp2_with fail
      obtain ⟨wo, rfl⟩ : ∃ wo : World, wo = wr := ⟨_, rfl⟩
      go_loopw [6, 27] (fun x i wr => Below wo.heap.size wo wr ∧ ((i = .int .i64 0 ∧ OwnP wr wo.heap.size x []) ∨ (i = .int .i64 1 ∧ OwnP wr wo.heap.size x l1) ∨ (i = .int .i64 2 ∧ OwnP wr wo.heap.size x (l1 ++ l2)))) (fun _ i _ => 2 - (intOf i).toNat)
      case atStart => exact ⟨HB1.out, .inl ⟨rfl, HO1.out⟩⟩
      case round =>
        obtain ⟨hb, hrel⟩ := hrel
        obtain ⟨o1, o2, p0, p1⟩ := H1.out _ hb
        have HB : Hid (Below wo.heap.size wo wr) := hb
        clear HB1 HO1
        rcases hrel with ⟨rfl, ho⟩ | ⟨rfl, ho⟩ | ⟨rfl, ho⟩
        · go_wp2_with (at_builtin; refine wpList_append_ptrs _ rfl (.tmp 31) (.tmp 32) rfl wo.heap.size _ [] b1 _ l1 rfl ho rfl o1 (by rw [hn1.out]; simp; omega) HB.out.size ?_; intro v' w' ho' hb')
          go_roundw
          case rel => exact ⟨HB.out.trans hb', .inr (.inl ⟨rfl, ho'⟩)⟩
          case measure => simp [intOf]
        · go_wp2_with (at_builtin; refine wpList_append_ptrs _ rfl (.tmp 31) (.tmp 32) rfl wo.heap.size _ l1 b2 _ l2 rfl ho rfl o2 (by rw [hn1.out, hn2.out]; omega) HB.out.size ?_; intro v' w' ho' hb')
          go_roundw
          case rel => exact ⟨HB.out.trans hb', .inr (.inr ⟨rfl, ho'⟩)⟩
          case measure => simp [intOf]
        · go_wp2_with fail
          go_ret
          exact ⟨⟨_, rfl, ho⟩, HB.out⟩
set_option maxRecDepth 100000 in
set_option maxHeartbeats 8000000 in
theorem shAll_any (w : World) (v1 v2 : Value) (b : Nat) (l1 l2 : List Hdl) (h : TwoP w b v1 v2 l1 l2) (hl : l1.length + l2.length ≤ 1000000) :
    Calls Tryz.prog 106 #[.agg #[v1, v2]] w fun e w' => (∃ v, e = .returned v ∧ OwnP w' w.heap.size v (l1 ++ l2)) ∧ Below w.heap.size w w' := by
  obtain ⟨a1, k1, rfl, _⟩ := h.a.form
  obtain ⟨a2, k2, rfl, _⟩ := h.b.form
  have h1 := h.a
  have h2 := h.b
  clear h
  obtain ⟨n1, hn1⟩ : ∃ n, l1.length = n := ⟨_, rfl⟩
  obtain ⟨n2, hn2⟩ : ∃ n, l2.length = n := ⟨_, rfl⟩
  rw [hn1] at h1
  rw [hn2] at h2
  rw [hn1, hn2]
  obtain ⟨W, hW⟩ : ∃ W, W = (w.alloc (.cells #[.slice a1 n1 k1, .slice a2 n2 k2] 184)).alloc (.cells #[.slice a1 n1 k1, .slice a2 n2 k2] 180) := ⟨_, rfl⟩
  have HW : Hid (W = (w.alloc (.cells #[.slice a1 n1 k1, .slice a2 n2 k2] 184)).alloc (.cells #[.slice a1 n1 k1, .slice a2 n2 k2] 180)) := hW
  have bW : Below w.heap.size w W := by rw [hW]; exact ((Below.refl _ _).alloc (Nat.le_refl _) _).alloc (by simp) _
  have hs : W.heap.size = w.heap.size + 2 := by rw [hW]; simp
  have C : Hid (Calls Tryz.prog 170 #[.slice (some ⟨w.heap.size + 1, 0, none⟩) 2 2] W fun e w' => (∃ v, e = .returned v ∧ OwnP w' W.heap.size v (l1 ++ l2)) ∧ Below W.heap.size W w') := concatP_any W (w.heap.size + 1) (.slice a1 n1 k1) (.slice a2 n2 k2) b b l1 l2 (by rw [hW]; simp) (by rw [hW]; simp) (h1.below bW) (h2.below bW) hl
  have B0 : Hid (Below w.heap.size w W) := bW
  clear hW h1 h2 bW
  go_enter Tryz.func106, Tryz.ntmps106
  go_wp2_with fail
  rw [← HW.out]
  refine C.out.mono ?_
  rintro r w1 ⟨⟨v, rfl, ho⟩, hb1⟩
  have HB : Hid (Below w.heap.size w w1) := B0.out.trans (hb1.mono B0.out.size)
  have HO : Hid (OwnP w1 w.heap.size v (l1 ++ l2)) := ho.lower (by omega)
  clear hb1 ho C B0 HW
  go_wp2_with fail
  go_ret
  exact ⟨⟨_, rfl, HO.out⟩, HB.out⟩
end Go.Proofs.YtlbagfaiiileoaaGreatDoor
/-
  Is it an entry? The specification's answer.
-/
namespace Go.Proofs.YtlbagfaiiileoaaGreatDoor
open Go.ChangeShapes Go.WideShapes Go.ChangeAt Go.RowKit Go.Sort
def stB (st : Int) : Bool := decide (st = 200) || decide (st = 404) || decide (st = 410)
def pinB (p : Int) : Bool := decide (0 ≤ p) && decide (p ≤ 20)
def entryC (key : ByteArray) (st pins : Int) (hs : List Hdr) (bn tn : Nat) (t g l s e : Int) : Int :=
  if key.size < 1 ∨ 500 < key.size then 2 else
  if (stB st && pinB pins) = false then 3 else
  if headsC hs ≠ 0 then headsC hs else
  if 2000 < bn ∨ 10 < tn then 2 else metaC t g l s e
set_option maxHeartbeats 8000000 in
theorem specEntry_any (w : World) (key : ByteArray) (st : Int) (ha : Option Addr) (hc : Nat) (ba : Option Addr) (bc : Nat) (t g l s e : Int) (b1 b2 : Bool) (ta : Option Addr) (tc : Nat) (pins : Int) (hs : List Hdr) (bn tn : Nat) (hk : key.size ≤ maxLen) (hhl : hs.length ≤ 1048576) (hbn : bn ≤ maxLen) (htn : tn ≤ maxLen) (hH : HdsIn w ha hs) :
    Calls Tryz.prog 89 #[.agg #[.string key, .int .i64 st, .slice ha hs.length hc, .slice ba bn bc, .int .i64 t, .int .i64 g, .int .i64 l, .int .i64 s, .int .i64 e, .bool b1, .bool b2, .slice ta tn tc, .int .i64 pins]] w fun r w' => r = .returned (.int .i64 (entryC key st pins hs bn tn t g l s e)) ∧ Below w.heap.size w w' := by
  have HK : Hid (Below w.heap.size w (w.alloc (.cells #[.string key, .int .i64 st, .slice ha hs.length hc, .slice ba bn bc, .int .i64 t, .int .i64 g, .int .i64 l, .int .i64 s, .int .i64 e, .bool b1, .bool b2, .slice ta tn tc, .int .i64 pins] 163)) ∧ E13 (w.alloc (.cells #[.string key, .int .i64 st, .slice ha hs.length hc, .slice ba bn bc, .int .i64 t, .int .i64 g, .int .i64 l, .int .i64 s, .int .i64 e, .bool b1, .bool b2, .slice ta tn tc, .int .i64 pins] 163)) w.heap.size (.string key) (.int .i64 st) (.slice ha hs.length hc) (.slice ba bn bc) (.int .i64 t) (.int .i64 g) (.int .i64 l) (.int .i64 s) (.int .i64 e) (.bool b1) (.bool b2) (.slice ta tn tc) (.int .i64 pins)) := ⟨(Below.refl _ _).alloc (Nat.le_refl _) _, E13.new w _ _ _ _ _ _ _ _ _ _ _ _ _ _⟩
  have HI : Hid (∀ w, Calls Tryz.prog 84 #[.int .i64 pins, .int .i64 0, .int .i64 20] w fun r w' => r = .returned (.bool (pinB pins)) ∧ w' = w) := l1In_all pins 0 20
  have HH : Hid (∀ X, Below w.heap.size w X → Calls Tryz.prog 157 #[.slice ha hs.length hc] X fun e w' => e = .returned (.int .i64 (headsC hs)) ∧ Below X.heap.size X w') := fun X hb => specHFault_any X ha hc hs hhl (hH.keep hb)
  have HM : Hid (∀ X, Calls Tryz.prog 158 #[.agg #[.int .i64 t, .int .i64 g, .int .i64 l, .int .i64 s, .int .i64 e, .bool b1, .bool b2]] X fun r w' => r = .returned (.int .i64 (metaC t g l s e)) ∧ Below X.heap.size X w') := fun X => specMeta_any t g l s e b1 b2 X
  obtain ⟨Z, hZ⟩ : ∃ Z, entryC key st pins hs bn tn t g l s e = Z := ⟨_, rfl⟩
  rw [hZ]
  unfold entryC at hZ
  obtain ⟨hcd, hhc⟩ : ∃ x, headsC hs = x := ⟨_, rfl⟩
  obtain ⟨mcd, hmc⟩ : ∃ x, metaC t g l s e = x := ⟨_, rfl⟩
  obtain ⟨pb, hpb⟩ : ∃ x, pinB pins = x := ⟨_, rfl⟩
  rw [hhc] at HH hZ
  rw [hmc] at HM hZ
  rw [hpb] at HI hZ
  clear hhc hmc hpb hH hhl
  generalize hs.length = hl at *
  unfold maxLen at hk hbn htn
  have HZ : Hid (_ = Z) := hZ
  clear hZ
  by_cases c1 : key.size < 1
  · have HR := HZ.out
    rw [if_pos (.inl c1)] at HR
    rw [← HR]
    clear HR HZ
    go_enter Tryz.func89, Tryz.ntmps89
    go_wp2_with fail
    go_ret
    exact ⟨rfl, HK.out.1⟩
  by_cases c2 : 500 < key.size
  · have HR := HZ.out
    rw [if_pos (.inr c2)] at HR
    rw [← HR]
    clear HR HZ
    go_enter Tryz.func89, Tryz.ntmps89
    go_wp2_with fail
    go_ret
    exact ⟨rfl, HK.out.1⟩
  rw [if_neg (by omega)] at HZ
  by_cases hst : stB st = false
  · have HR := HZ.out
    rw [if_pos (by rw [hst]; rfl)] at HR
    rw [← HR]
    clear HR HZ
    unfold stB at hst
    have n1 : st ≠ 200 := fun q => by subst q; simp at hst
    have n2 : st ≠ 404 := fun q => by subst q; simp at hst
    have n3 : st ≠ 410 := fun q => by subst q; simp at hst
    clear hst
    go_enter Tryz.func89, Tryz.ntmps89
    go_wp2_with fail
    go_ret
    exact ⟨rfl, HK.out.1⟩
  have hst1 : stB st = true := by cases q : stB st <;> simp_all
  clear hst
  rw [hst1, Bool.true_and] at HZ
  have three : st = 200 ∨ st = 404 ∨ st = 410 := by unfold stB at hst1; simp at hst1; omega
  clear hst1
  rcases three with h | h | h
  · subst h
    cases pb
    · have HR := HZ.out
      rw [if_pos rfl] at HR
      rw [← HR]
      clear HR HZ
      go_enter Tryz.func89, Tryz.ntmps89
      go_wp2_with fail
      refine (HI.out _).mono ?_
      rintro r w1 ⟨rfl, rfl⟩
      go_wp2_with fail
      go_ret
      exact ⟨rfl, HK.out.1⟩
    rw [if_neg (by decide)] at HZ
    have HE : Hid (∀ X, Below w.heap.size w X → Calls Tryz.prog 157 #[.slice ha hl hc] X fun e w' => e = .returned (.int .i64 hcd) ∧ Below X.heap.size X w') := HH
    by_cases c3 : hcd ≠ 0
    · have HR := HZ.out
      rw [if_pos c3] at HR
      rw [← HR]
      clear HR HZ
      go_enter Tryz.func89, Tryz.ntmps89
      go_wp2_with fail
      refine (HI.out _).mono ?_
      rintro r w1 ⟨rfl, rfl⟩
      have q2 := HK.out.2.c2
      go_wp2_with fail
      refine (HH.out _ HK.out.1).mono ?_
      rintro r w2 ⟨rfl, hb2⟩
      have HB2 : Hid (Below w.heap.size w w2) := HK.out.1.trans (hb2.mono HK.out.1.size)
      clear hb2
      go_wp2_with fail
      go_ret
      exact ⟨rfl, HB2.out⟩
    rw [if_neg c3] at HZ
    have c3' : hcd = 0 := by omega
    subst c3'
    clear c3 HE
    by_cases c4 : 2000 < bn
    · have HR := HZ.out
      rw [if_pos (.inl c4)] at HR
      rw [← HR]
      clear HR HZ
      go_enter Tryz.func89, Tryz.ntmps89
      go_wp2_with fail
      refine (HI.out _).mono ?_
      rintro r w1 ⟨rfl, rfl⟩
      have q2 := HK.out.2.c2
      go_wp2_with fail
      refine (HH.out _ HK.out.1).mono ?_
      rintro r w2 ⟨rfl, hb2⟩
      have HK2 : Hid (Below w.heap.size w w2 ∧ E13 w2 w.heap.size (.string key) (.int .i64 200) (.slice ha hl hc) (.slice ba bn bc) (.int .i64 t) (.int .i64 g) (.int .i64 l) (.int .i64 s) (.int .i64 e) (.bool b1) (.bool b2) (.slice ta tn tc) (.int .i64 pins)) := ⟨HK.out.1.trans (hb2.mono HK.out.1.size), HK.out.2.keep hb2⟩
      clear hb2
      have k3 := HK2.out.2.c3
      have k4 := HK2.out.2.c4
      have k5 := HK2.out.2.c5
      have k6 := HK2.out.2.c6
      have k7 := HK2.out.2.c7
      have k8 := HK2.out.2.c8
      have k9 := HK2.out.2.c9
      have k10 := HK2.out.2.c10
      have k11 := HK2.out.2.c11
      go_wp2_with fail
      go_ret
      exact ⟨rfl, HK2.out.1⟩
    by_cases c5 : 10 < tn
    · have HR := HZ.out
      rw [if_pos (.inr c5)] at HR
      rw [← HR]
      clear HR HZ
      go_enter Tryz.func89, Tryz.ntmps89
      go_wp2_with fail
      refine (HI.out _).mono ?_
      rintro r w1 ⟨rfl, rfl⟩
      have q2 := HK.out.2.c2
      go_wp2_with fail
      refine (HH.out _ HK.out.1).mono ?_
      rintro r w2 ⟨rfl, hb2⟩
      have HK2 : Hid (Below w.heap.size w w2 ∧ E13 w2 w.heap.size (.string key) (.int .i64 200) (.slice ha hl hc) (.slice ba bn bc) (.int .i64 t) (.int .i64 g) (.int .i64 l) (.int .i64 s) (.int .i64 e) (.bool b1) (.bool b2) (.slice ta tn tc) (.int .i64 pins)) := ⟨HK.out.1.trans (hb2.mono HK.out.1.size), HK.out.2.keep hb2⟩
      clear hb2
      have k3 := HK2.out.2.c3
      have k4 := HK2.out.2.c4
      have k5 := HK2.out.2.c5
      have k6 := HK2.out.2.c6
      have k7 := HK2.out.2.c7
      have k8 := HK2.out.2.c8
      have k9 := HK2.out.2.c9
      have k10 := HK2.out.2.c10
      have k11 := HK2.out.2.c11
      go_wp2_with fail
      go_ret
      exact ⟨rfl, HK2.out.1⟩
    rw [if_neg (by omega)] at HZ
    · rw [← HZ.out]
      clear HZ
      go_enter Tryz.func89, Tryz.ntmps89
      go_wp2_with fail
      refine (HI.out _).mono ?_
      rintro r w1 ⟨rfl, rfl⟩
      have q2 := HK.out.2.c2
      go_wp2_with fail
      refine (HH.out _ HK.out.1).mono ?_
      rintro r w2 ⟨rfl, hb2⟩
      have HK2 : Hid (Below w.heap.size w w2 ∧ E13 w2 w.heap.size (.string key) (.int .i64 200) (.slice ha hl hc) (.slice ba bn bc) (.int .i64 t) (.int .i64 g) (.int .i64 l) (.int .i64 s) (.int .i64 e) (.bool b1) (.bool b2) (.slice ta tn tc) (.int .i64 pins)) := ⟨HK.out.1.trans (hb2.mono HK.out.1.size), HK.out.2.keep hb2⟩
      clear hb2
      have k3 := HK2.out.2.c3
      have k4 := HK2.out.2.c4
      have k5 := HK2.out.2.c5
      have k6 := HK2.out.2.c6
      have k7 := HK2.out.2.c7
      have k8 := HK2.out.2.c8
      have k9 := HK2.out.2.c9
      have k10 := HK2.out.2.c10
      have k11 := HK2.out.2.c11
      go_wp2_with fail
      refine (HM.out _).mono ?_
      rintro r w3 ⟨rfl, hb3⟩
      have HB3 : Hid (Below w.heap.size w w3) := HK2.out.1.trans (hb3.mono HK2.out.1.size)
      clear hb3
      go_wp2_with fail
      go_ret
      exact ⟨rfl, HB3.out⟩
  · subst h
    cases pb
    · have HR := HZ.out
      rw [if_pos rfl] at HR
      rw [← HR]
      clear HR HZ
      go_enter Tryz.func89, Tryz.ntmps89
      go_wp2_with fail
      refine (HI.out _).mono ?_
      rintro r w1 ⟨rfl, rfl⟩
      go_wp2_with fail
      go_ret
      exact ⟨rfl, HK.out.1⟩
    rw [if_neg (by decide)] at HZ
    have HE : Hid (∀ X, Below w.heap.size w X → Calls Tryz.prog 157 #[.slice ha hl hc] X fun e w' => e = .returned (.int .i64 hcd) ∧ Below X.heap.size X w') := HH
    by_cases c3 : hcd ≠ 0
    · have HR := HZ.out
      rw [if_pos c3] at HR
      rw [← HR]
      clear HR HZ
      go_enter Tryz.func89, Tryz.ntmps89
      go_wp2_with fail
      refine (HI.out _).mono ?_
      rintro r w1 ⟨rfl, rfl⟩
      have q2 := HK.out.2.c2
      go_wp2_with fail
      refine (HH.out _ HK.out.1).mono ?_
      rintro r w2 ⟨rfl, hb2⟩
      have HB2 : Hid (Below w.heap.size w w2) := HK.out.1.trans (hb2.mono HK.out.1.size)
      clear hb2
      go_wp2_with fail
      go_ret
      exact ⟨rfl, HB2.out⟩
    rw [if_neg c3] at HZ
    have c3' : hcd = 0 := by omega
    subst c3'
    clear c3 HE
    by_cases c4 : 2000 < bn
    · have HR := HZ.out
      rw [if_pos (.inl c4)] at HR
      rw [← HR]
      clear HR HZ
      go_enter Tryz.func89, Tryz.ntmps89
      go_wp2_with fail
      refine (HI.out _).mono ?_
      rintro r w1 ⟨rfl, rfl⟩
      have q2 := HK.out.2.c2
      go_wp2_with fail
      refine (HH.out _ HK.out.1).mono ?_
      rintro r w2 ⟨rfl, hb2⟩
      have HK2 : Hid (Below w.heap.size w w2 ∧ E13 w2 w.heap.size (.string key) (.int .i64 404) (.slice ha hl hc) (.slice ba bn bc) (.int .i64 t) (.int .i64 g) (.int .i64 l) (.int .i64 s) (.int .i64 e) (.bool b1) (.bool b2) (.slice ta tn tc) (.int .i64 pins)) := ⟨HK.out.1.trans (hb2.mono HK.out.1.size), HK.out.2.keep hb2⟩
      clear hb2
      have k3 := HK2.out.2.c3
      have k4 := HK2.out.2.c4
      have k5 := HK2.out.2.c5
      have k6 := HK2.out.2.c6
      have k7 := HK2.out.2.c7
      have k8 := HK2.out.2.c8
      have k9 := HK2.out.2.c9
      have k10 := HK2.out.2.c10
      have k11 := HK2.out.2.c11
      go_wp2_with fail
      go_ret
      exact ⟨rfl, HK2.out.1⟩
    by_cases c5 : 10 < tn
    · have HR := HZ.out
      rw [if_pos (.inr c5)] at HR
      rw [← HR]
      clear HR HZ
      go_enter Tryz.func89, Tryz.ntmps89
      go_wp2_with fail
      refine (HI.out _).mono ?_
      rintro r w1 ⟨rfl, rfl⟩
      have q2 := HK.out.2.c2
      go_wp2_with fail
      refine (HH.out _ HK.out.1).mono ?_
      rintro r w2 ⟨rfl, hb2⟩
      have HK2 : Hid (Below w.heap.size w w2 ∧ E13 w2 w.heap.size (.string key) (.int .i64 404) (.slice ha hl hc) (.slice ba bn bc) (.int .i64 t) (.int .i64 g) (.int .i64 l) (.int .i64 s) (.int .i64 e) (.bool b1) (.bool b2) (.slice ta tn tc) (.int .i64 pins)) := ⟨HK.out.1.trans (hb2.mono HK.out.1.size), HK.out.2.keep hb2⟩
      clear hb2
      have k3 := HK2.out.2.c3
      have k4 := HK2.out.2.c4
      have k5 := HK2.out.2.c5
      have k6 := HK2.out.2.c6
      have k7 := HK2.out.2.c7
      have k8 := HK2.out.2.c8
      have k9 := HK2.out.2.c9
      have k10 := HK2.out.2.c10
      have k11 := HK2.out.2.c11
      go_wp2_with fail
      go_ret
      exact ⟨rfl, HK2.out.1⟩
    rw [if_neg (by omega)] at HZ
    · rw [← HZ.out]
      clear HZ
      go_enter Tryz.func89, Tryz.ntmps89
      go_wp2_with fail
      refine (HI.out _).mono ?_
      rintro r w1 ⟨rfl, rfl⟩
      have q2 := HK.out.2.c2
      go_wp2_with fail
      refine (HH.out _ HK.out.1).mono ?_
      rintro r w2 ⟨rfl, hb2⟩
      have HK2 : Hid (Below w.heap.size w w2 ∧ E13 w2 w.heap.size (.string key) (.int .i64 404) (.slice ha hl hc) (.slice ba bn bc) (.int .i64 t) (.int .i64 g) (.int .i64 l) (.int .i64 s) (.int .i64 e) (.bool b1) (.bool b2) (.slice ta tn tc) (.int .i64 pins)) := ⟨HK.out.1.trans (hb2.mono HK.out.1.size), HK.out.2.keep hb2⟩
      clear hb2
      have k3 := HK2.out.2.c3
      have k4 := HK2.out.2.c4
      have k5 := HK2.out.2.c5
      have k6 := HK2.out.2.c6
      have k7 := HK2.out.2.c7
      have k8 := HK2.out.2.c8
      have k9 := HK2.out.2.c9
      have k10 := HK2.out.2.c10
      have k11 := HK2.out.2.c11
      go_wp2_with fail
      refine (HM.out _).mono ?_
      rintro r w3 ⟨rfl, hb3⟩
      have HB3 : Hid (Below w.heap.size w w3) := HK2.out.1.trans (hb3.mono HK2.out.1.size)
      clear hb3
      go_wp2_with fail
      go_ret
      exact ⟨rfl, HB3.out⟩
  · subst h
    cases pb
    · have HR := HZ.out
      rw [if_pos rfl] at HR
      rw [← HR]
      clear HR HZ
      go_enter Tryz.func89, Tryz.ntmps89
      go_wp2_with fail
      refine (HI.out _).mono ?_
      rintro r w1 ⟨rfl, rfl⟩
      go_wp2_with fail
      go_ret
      exact ⟨rfl, HK.out.1⟩
    rw [if_neg (by decide)] at HZ
    have HE : Hid (∀ X, Below w.heap.size w X → Calls Tryz.prog 157 #[.slice ha hl hc] X fun e w' => e = .returned (.int .i64 hcd) ∧ Below X.heap.size X w') := HH
    by_cases c3 : hcd ≠ 0
    · have HR := HZ.out
      rw [if_pos c3] at HR
      rw [← HR]
      clear HR HZ
      go_enter Tryz.func89, Tryz.ntmps89
      go_wp2_with fail
      refine (HI.out _).mono ?_
      rintro r w1 ⟨rfl, rfl⟩
      have q2 := HK.out.2.c2
      go_wp2_with fail
      refine (HH.out _ HK.out.1).mono ?_
      rintro r w2 ⟨rfl, hb2⟩
      have HB2 : Hid (Below w.heap.size w w2) := HK.out.1.trans (hb2.mono HK.out.1.size)
      clear hb2
      go_wp2_with fail
      go_ret
      exact ⟨rfl, HB2.out⟩
    rw [if_neg c3] at HZ
    have c3' : hcd = 0 := by omega
    subst c3'
    clear c3 HE
    by_cases c4 : 2000 < bn
    · have HR := HZ.out
      rw [if_pos (.inl c4)] at HR
      rw [← HR]
      clear HR HZ
      go_enter Tryz.func89, Tryz.ntmps89
      go_wp2_with fail
      refine (HI.out _).mono ?_
      rintro r w1 ⟨rfl, rfl⟩
      have q2 := HK.out.2.c2
      go_wp2_with fail
      refine (HH.out _ HK.out.1).mono ?_
      rintro r w2 ⟨rfl, hb2⟩
      have HK2 : Hid (Below w.heap.size w w2 ∧ E13 w2 w.heap.size (.string key) (.int .i64 410) (.slice ha hl hc) (.slice ba bn bc) (.int .i64 t) (.int .i64 g) (.int .i64 l) (.int .i64 s) (.int .i64 e) (.bool b1) (.bool b2) (.slice ta tn tc) (.int .i64 pins)) := ⟨HK.out.1.trans (hb2.mono HK.out.1.size), HK.out.2.keep hb2⟩
      clear hb2
      have k3 := HK2.out.2.c3
      have k4 := HK2.out.2.c4
      have k5 := HK2.out.2.c5
      have k6 := HK2.out.2.c6
      have k7 := HK2.out.2.c7
      have k8 := HK2.out.2.c8
      have k9 := HK2.out.2.c9
      have k10 := HK2.out.2.c10
      have k11 := HK2.out.2.c11
      go_wp2_with fail
      go_ret
      exact ⟨rfl, HK2.out.1⟩
    by_cases c5 : 10 < tn
    · have HR := HZ.out
      rw [if_pos (.inr c5)] at HR
      rw [← HR]
      clear HR HZ
      go_enter Tryz.func89, Tryz.ntmps89
      go_wp2_with fail
      refine (HI.out _).mono ?_
      rintro r w1 ⟨rfl, rfl⟩
      have q2 := HK.out.2.c2
      go_wp2_with fail
      refine (HH.out _ HK.out.1).mono ?_
      rintro r w2 ⟨rfl, hb2⟩
      have HK2 : Hid (Below w.heap.size w w2 ∧ E13 w2 w.heap.size (.string key) (.int .i64 410) (.slice ha hl hc) (.slice ba bn bc) (.int .i64 t) (.int .i64 g) (.int .i64 l) (.int .i64 s) (.int .i64 e) (.bool b1) (.bool b2) (.slice ta tn tc) (.int .i64 pins)) := ⟨HK.out.1.trans (hb2.mono HK.out.1.size), HK.out.2.keep hb2⟩
      clear hb2
      have k3 := HK2.out.2.c3
      have k4 := HK2.out.2.c4
      have k5 := HK2.out.2.c5
      have k6 := HK2.out.2.c6
      have k7 := HK2.out.2.c7
      have k8 := HK2.out.2.c8
      have k9 := HK2.out.2.c9
      have k10 := HK2.out.2.c10
      have k11 := HK2.out.2.c11
      go_wp2_with fail
      go_ret
      exact ⟨rfl, HK2.out.1⟩
    rw [if_neg (by omega)] at HZ
    · rw [← HZ.out]
      clear HZ
      go_enter Tryz.func89, Tryz.ntmps89
      go_wp2_with fail
      refine (HI.out _).mono ?_
      rintro r w1 ⟨rfl, rfl⟩
      have q2 := HK.out.2.c2
      go_wp2_with fail
      refine (HH.out _ HK.out.1).mono ?_
      rintro r w2 ⟨rfl, hb2⟩
      have HK2 : Hid (Below w.heap.size w w2 ∧ E13 w2 w.heap.size (.string key) (.int .i64 410) (.slice ha hl hc) (.slice ba bn bc) (.int .i64 t) (.int .i64 g) (.int .i64 l) (.int .i64 s) (.int .i64 e) (.bool b1) (.bool b2) (.slice ta tn tc) (.int .i64 pins)) := ⟨HK.out.1.trans (hb2.mono HK.out.1.size), HK.out.2.keep hb2⟩
      clear hb2
      have k3 := HK2.out.2.c3
      have k4 := HK2.out.2.c4
      have k5 := HK2.out.2.c5
      have k6 := HK2.out.2.c6
      have k7 := HK2.out.2.c7
      have k8 := HK2.out.2.c8
      have k9 := HK2.out.2.c9
      have k10 := HK2.out.2.c10
      have k11 := HK2.out.2.c11
      go_wp2_with fail
      refine (HM.out _).mono ?_
      rintro r w3 ⟨rfl, hb3⟩
      have HB3 : Hid (Below w.heap.size w w3) := HK2.out.1.trans (hb3.mono HK2.out.1.size)
      clear hb3
      go_wp2_with fail
      go_ret
      exact ⟨rfl, HB3.out⟩
end Go.Proofs.YtlbagfaiiileoaaGreatDoor
/-
  Head lines read from a text, plainly. No Go in sight.
-/
namespace Go.Proofs.YtlbagfaiiileoaaGreatDoor
/-- Where the first bytes 13 and 10 stand; the length where there are none. -/
def crAt : List UInt8 → Nat
  | [] => 0
  | [_] => 1
  | c :: d :: r => if c = 13 ∧ d = 10 then 0 else 1 + crAt (d :: r)
theorem crAt_le : ∀ l : List UInt8, crAt l ≤ l.length
  | [] => Nat.le_refl _
  | [_] => Nat.le_refl _
  | c :: d :: r => by
    have := crAt_le (d :: r)
    rw [crAt]
    split
    · exact Nat.zero_le _
    · simp only [List.length_cons] at this ⊢; omega
theorem crAt_room : ∀ l : List UInt8, crAt l < l.length → crAt l + 2 ≤ l.length
  | [], h => by simp [crAt] at h
  | [_], h => by simp [crAt] at h
  | c :: d :: r, h => by
    rw [crAt] at h ⊢
    by_cases e : c = 13 ∧ d = 10
    · rw [if_pos e]; simp only [List.length_cons]; omega
    · rw [if_neg e] at h ⊢
      have := crAt_room (d :: r) (by simp only [List.length_cons] at h ⊢; omega)
      simp only [List.length_cons] at this ⊢; omega
theorem crAt_on : ∀ (l : List UInt8) (k : Nat), k ≤ crAt l → (h : k + 1 < l.length) → (l[k] = 13 ∧ l[k + 1] = 10 → crAt l = k) ∧ (¬ (l[k] = 13 ∧ l[k + 1] = 10) → k + 1 ≤ crAt l)
  | [], k, _, h => by simp at h
  | [_], k, _, h => by simp at h
  | c :: d :: r, 0, _, h => by
    refine ⟨fun e => ?_, fun e => ?_⟩
    · rw [crAt, if_pos (by simpa using e)]
    · rw [crAt, if_neg (by simpa using e)]; omega
  | c :: d :: r, k + 1, hk, h => by
    rw [crAt] at hk ⊢
    by_cases e : c = 13 ∧ d = 10
    · rw [if_pos e] at hk; omega
    · rw [if_neg e] at hk ⊢
      have ih := crAt_on (d :: r) k (by omega) (by simp only [List.length_cons] at h ⊢; omega)
      refine ⟨fun x => ?_, fun x => ?_⟩
      · have := ih.1 (by simpa using x); omega
      · have := ih.2 (by simpa using x); omega
theorem crAt_end (l : List UInt8) (k : Nat) (hk : k ≤ crAt l) (h : ¬ k + 1 < l.length) : crAt l = l.length := by
  have h1 := crAt_le l
  by_cases c : crAt l < l.length
  · have := crAt_room l c; omega
  · omega
theorem crAt_is : ∀ l : List UInt8, crAt l < l.length → ([13, 10] : List UInt8).isPrefixOf (l.drop (crAt l)) = true
  | [], h => by simp [crAt] at h
  | [_], h => by simp [crAt] at h
  | c :: d :: r, h => by
    rw [crAt] at h ⊢
    by_cases e : c = 13 ∧ d = 10
    · rw [if_pos e]; simp [e.1, e.2, List.isPrefixOf]
    · rw [if_neg e] at h ⊢
      have := crAt_is (d :: r) (by simp only [List.length_cons] at h ⊢; omega)
      rw [show 1 + crAt (d :: r) = crAt (d :: r) + 1 from by omega, List.drop_succ_cons]
      exact this
theorem crAt_not : ∀ (l : List UInt8) (j : Nat), j < crAt l → ([13, 10] : List UInt8).isPrefixOf (l.drop j) = false
  | [], j, h => by simp [crAt] at h
  | [x], j, h => by
    have : j = 0 := by simp [crAt] at h; omega
    subst this
    simp [List.isPrefixOf]
  | c :: d :: r, j, h => by
    rw [crAt] at h
    by_cases e : c = 13 ∧ d = 10
    · rw [if_pos e] at h; omega
    · rw [if_neg e] at h
      cases j with
      | zero =>
        simp only [List.drop_zero, List.isPrefixOf, Bool.and_true]
        by_cases e1 : c = 13
        · have e2 : ¬ d = 10 := fun x => e ⟨e1, x⟩
          have : ((10 : UInt8) == d) = false := by rw [beq_eq_false_iff_ne]; exact fun x => e2 x.symm
          rw [this, Bool.and_false]
        · have : ((13 : UInt8) == c) = false := by rw [beq_eq_false_iff_ne]; exact fun x => e1 x.symm
          rw [this, Bool.false_and]
      | succ j => rw [List.drop_succ_cons]; exact crAt_not (d :: r) j (by omega)
theorem index_cr (l : List UInt8) : Lib.index l [13, 10] = if crAt l < l.length then (crAt l : Int) else -1 := by
  by_cases h : crAt l < l.length
  · rw [if_pos h]
    exact Lib.index_first (Nat.le_of_lt h) (crAt_is l h) (fun j hj => crAt_not l j hj)
  · rw [if_neg h]
    have e : crAt l = l.length := by have := crAt_le l; omega
    refine Lib.index_none fun j hj => ?_
    by_cases c : j < crAt l
    · exact crAt_not l j c
    · have : j = l.length := by omega
      subst this
      simp [Lib.occAt]
theorem cut_cr {l : List UInt8} (h : crAt l < l.length) : Lib.cut l [13, 10] = (l.take (crAt l), l.drop (crAt l + 2), true) := by
  unfold Lib.cut
  rw [index_cr, if_pos h, if_pos (by omega)]
  rfl
/-- Where the first colon stands; the length where there is none. -/
def clAt : List UInt8 → Nat
  | [] => 0
  | c :: r => if c = 58 then 0 else 1 + clAt r
theorem clAt_le : ∀ l : List UInt8, clAt l ≤ l.length
  | [] => Nat.le_refl _
  | c :: r => by
    have := clAt_le r
    rw [clAt]
    split
    · exact Nat.zero_le _
    · simp only [List.length_cons]; omega
theorem clAt_on : ∀ (l : List UInt8) (k : Nat), k ≤ clAt l → (h : k < l.length) → (l[k] = 58 → clAt l = k) ∧ (¬ l[k] = 58 → k + 1 ≤ clAt l)
  | [], k, _, h => by simp at h
  | c :: r, 0, _, h => by
    refine ⟨fun e => ?_, fun e => ?_⟩
    · rw [clAt, if_pos (by simpa using e)]
    · rw [clAt, if_neg (by simpa using e)]; omega
  | c :: r, k + 1, hk, h => by
    rw [clAt] at hk ⊢
    by_cases e : c = 58
    · rw [if_pos e] at hk; omega
    · rw [if_neg e] at hk ⊢
      have ih := clAt_on r k (by omega) (by simp only [List.length_cons] at h; omega)
      refine ⟨fun x => ?_, fun x => ?_⟩
      · have := ih.1 (by simpa using x); omega
      · have := ih.2 (by simpa using x); omega
theorem index_cl : ∀ l : List UInt8, Lib.index l [58] = if clAt l < l.length then (clAt l : Int) else -1
  | [] => by simp [Lib.index, clAt]
  | c :: r => by
    have ih := index_cl r
    rw [Lib.index, clAt]
    by_cases h : c = 58
    · rw [if_pos (by simp [List.isPrefixOf, h]), if_pos h]; simp
    · have h2 : ([58] : List UInt8).isPrefixOf (c :: r) = false := by
        simp only [List.isPrefixOf, Bool.and_true, beq_eq_false_iff_ne]
        exact fun x => h x.symm
      rw [h2, if_neg h, ih]
      by_cases q : clAt r < r.length
      · have q2 : 1 + clAt r < (c :: r).length := by simp only [List.length_cons]; omega
        have e1 : ((clAt r : Int) == -1) = false := by rw [beq_eq_false_iff_ne]; omega
        simp only [Bool.false_eq_true, if_false, if_pos q, if_pos q2, e1]
        omega
      · have q2 : ¬ 1 + clAt r < (c :: r).length := by simp only [List.length_cons]; omega
        simp only [Bool.false_eq_true, if_false, if_neg q, if_neg q2]
        rfl
theorem cut_cl {l : List UInt8} (h : clAt l < l.length) : Lib.cut l [58] = (l.take (clAt l), l.drop (clAt l + 1), true) := by
  unfold Lib.cut
  rw [index_cl, if_pos h, if_pos (by omega)]
  rfl
theorem cut_cl_no {l : List UInt8} (h : ¬ clAt l < l.length) : Lib.cut l [58] = (l, [], false) := by
  unfold Lib.cut
  rw [index_cl, if_neg h, if_neg (by omega)]
def hmk (p : List UInt8) : ByteArray := ⟨p.toArray⟩
theorem hmk_size (p : List UInt8) : (hmk p).size = p.length := by simp [hmk, ByteArray.size]
theorem hmk_list (p : List UInt8) : (hmk p).data.toList = p := by simp [hmk]
def lineOf (p : List UInt8) : Hdr := ⟨hmk (p.take (clAt p)), trimT (hmk (p.drop (clAt p + 1)))⟩
def lineR (p : List UInt8) : Option Hdr := if clAt p < p.length then some (lineOf p) else none
theorem lineR_yes {p : List UInt8} (h : clAt p < p.length) : lineR p = some (lineOf p) := by unfold lineR; rw [if_pos h]
theorem lineR_no {p : List UInt8} (h : ¬ clAt p < p.length) : lineR p = none := by unfold lineR; rw [if_neg h]
/-- The lines that the bytes 13 and 10 end; none: the last one is not ended. -/
def linesO (l : List UInt8) : Option (List (List UInt8)) :=
  if _h : l = [] then some [] else if crAt l < l.length then (linesO (l.drop (crAt l + 2))).map (l.take (crAt l) :: ·) else none
termination_by l.length
decreasing_by
  have := List.length_pos_iff.2 _h
  simp only [List.length_drop]; omega
theorem linesO_nil : linesO [] = some [] := by rw [linesO]; simp
theorem linesO_cut {l : List UInt8} (h : crAt l < l.length) : linesO l = (linesO (l.drop (crAt l + 2))).map (l.take (crAt l) :: ·) := by
  have h0 : ¬ l = [] := fun e => by subst e; simp [crAt] at h
  rw [linesO, dif_neg h0, if_pos h]
theorem linesO_bad {l : List UInt8} (h0 : ¬ l = []) (h : ¬ crAt l < l.length) : linesO l = none := by
  rw [linesO, dif_neg h0, if_neg h]
theorem linesO_len : ∀ (n : Nat) (l : List UInt8) (P : List (List UInt8)), l.length ≤ n → linesO l = some P → P.length ≤ l.length ∧ ∀ p ∈ P, p.length ≤ l.length := by
  intro n
  induction n with
  | zero =>
    intro l P hn h
    have : l = [] := List.eq_nil_of_length_eq_zero (by omega)
    subst this
    rw [linesO_nil] at h
    obtain rfl := Option.some.inj h
    simp
  | succ n ih =>
    intro l P hn h
    by_cases h0 : l = []
    · subst h0
      rw [linesO_nil] at h
      obtain rfl := Option.some.inj h
      simp
    · by_cases hc : crAt l < l.length
      · rw [linesO_cut hc] at h
        obtain ⟨Q, hQ, rfl⟩ := Option.map_eq_some_iff.1 h
        have hl := List.length_pos_iff.2 h0
        have := ih _ Q (by simp only [List.length_drop]; omega) hQ
        simp only [List.length_drop] at this
        refine ⟨by simp only [List.length_cons]; omega, fun p hp => ?_⟩
        rcases List.mem_cons.1 hp with rfl | hp
        · simp only [List.length_take]; omega
        · have := this.2 p hp; omega
      · rw [linesO_bad h0 hc] at h; cases h
theorem suffix_far {a b : UInt8} {p r : List UInt8} (h : 2 ≤ r.length) : ([a, b].isSuffixOf (p ++ r)) = ([a, b].isSuffixOf r) := by
  rw [Bool.eq_iff_iff, List.isSuffixOf_iff_suffix, List.isSuffixOf_iff_suffix]
  constructor
  · intro hs
    exact List.suffix_of_suffix_length_le hs (List.suffix_append _ _) (by simpa using h)
  · intro hs
    exact hs.trans (List.suffix_append _ _)
theorem linesO_suffix : ∀ (n : Nat) (l : List UInt8), l.length ≤ n → ¬ l = [] → (linesO l).isSome = ([13, 10] : List UInt8).isSuffixOf l := by
  intro n
  induction n with
  | zero => intro l hn h0; exact absurd (List.eq_nil_of_length_eq_zero (by omega)) h0
  | succ n ih =>
    intro l hn h0
    by_cases hc : crAt l < l.length
    · have hr := crAt_room l hc
      have hi := crAt_is l hc
      rw [linesO_cut hc, Option.isSome_map]
      have e : l = l.take (crAt l) ++ ([13, 10] ++ l.drop (crAt l + 2)) := by
        have h1 := (List.take_append_drop (crAt l) l).symm
        obtain ⟨t, ht⟩ := List.isPrefixOf_iff_prefix.1 hi
        have h2 : t = l.drop (crAt l + 2) := by
          have := congrArg (List.drop 2) ht
          simp only [List.drop_drop] at this
          simpa using this
        rw [← h2, ht]
        exact h1
      by_cases h3 : l.drop (crAt l + 2) = []
      · rw [h3, linesO_nil]
        rw [h3] at e
        symm
        rw [Option.isSome_some, List.isSuffixOf_iff_suffix, e]
        exact List.suffix_append _ _
      · rw [ih _ (by simp only [List.length_drop]; have := List.length_pos_iff.2 h0; omega) h3]
        generalize l.drop (crAt l + 2) = r at *
        generalize l.take (crAt l) = p at *
        subst e
        by_cases h4 : 2 ≤ r.length
        · rw [← List.append_assoc, suffix_far h4]
        · match r, h3, h4 with
          | [x], _, _ =>
            rw [Bool.eq_iff_iff, List.isSuffixOf_iff_suffix, List.isSuffixOf_iff_suffix]
            constructor
            · intro hs; have := hs.length_le; simp at this
            · rintro ⟨q, hq⟩
              have hq2 : (q ++ [13]) ++ [10] = (p ++ [13]) ++ ([10] ++ [x]) := by simpa using hq
              have h5 := congrArg List.reverse hq2
              simp at h5
          | _ :: _ :: _, _, h4 => exact absurd (by simp) h4
    · rw [linesO_bad h0 hc]
      symm
      rw [Option.isSome_none]
      cases hs : ([13, 10] : List UInt8).isSuffixOf l
      · rfl
      · obtain ⟨q, hq⟩ := List.isSuffixOf_iff_suffix.1 hs
        have hl : l.length = q.length + 2 := by rw [← hq]; simp
        have := crAt_le l
        have hn2 := crAt_not l q.length (by omega)
        rw [← hq] at hn2
        simp [List.isPrefixOf] at hn2
/-- All lines read. -/
def readLs : List (List UInt8) → Option (List Hdr)
  | [] => some []
  | p :: ps => match lineR p with
    | none => none
    | some r => (readLs ps).map (r :: ·)
theorem readLs_bad {p : List UInt8} {ps : List (List UInt8)} (h : ¬ clAt p < p.length) : readLs (p :: ps) = none := by rw [readLs, lineR_no h]
theorem readLs_take {p : List UInt8} {ps : List (List UInt8)} (h : clAt p < p.length) : readLs (p :: ps) = (readLs ps).map (lineOf p :: ·) := by rw [readLs, lineR_yes h]
def readT (l : List UInt8) : Option (List Hdr) := (linesO l).bind readLs
theorem readT_nil : readT [] = some [] := by unfold readT; rw [linesO_nil]; rfl
theorem readT_bad {l : List UInt8} (h : crAt l < l.length) (h2 : ¬ clAt (l.take (crAt l)) < (l.take (crAt l)).length) : readT l = none := by
  unfold readT
  rw [linesO_cut h]
  cases linesO (l.drop (crAt l + 2)) with
  | none => rfl
  | some P => simp only [Option.map_some, Option.bind_some]; rw [readLs_bad h2]
theorem readT_take {l : List UInt8} (h : crAt l < l.length) (h2 : clAt (l.take (crAt l)) < (l.take (crAt l)).length) : readT l = (readT (l.drop (crAt l + 2))).map (lineOf (l.take (crAt l)) :: ·) := by
  unfold readT
  rw [linesO_cut h]
  cases linesO (l.drop (crAt l + 2)) with
  | none => rfl
  | some P => simp only [Option.map_some, Option.bind_some]; rw [readLs_take h2]
def readHC (s : ByteArray) : Int := if 6000 < s.size then 2 else match readT s.data.toList with
  | none => 5
  | some L => headsC L
def readHL (s : ByteArray) : List Hdr := if 6000 < s.size then [] else match readT s.data.toList with
  | none => []
  | some L => if headsC L = 0 then L else []
theorem readH_long {s : ByteArray} (h : 6000 < s.size) : readHC s = 2 ∧ readHL s = [] := by unfold readHC readHL; rw [if_pos h, if_pos h]; exact ⟨rfl, rfl⟩
theorem readH_bad {s : ByteArray} (h : ¬ 6000 < s.size) (hr : readT s.data.toList = none) : readHC s = 5 ∧ readHL s = [] := by unfold readHC readHL; rw [if_neg h, if_neg h, hr]; exact ⟨rfl, rfl⟩
theorem readH_fault {s : ByteArray} {L : List Hdr} (h : ¬ 6000 < s.size) (hr : readT s.data.toList = some L) (hL : headsC L ≠ 0) : readHC s = headsC L ∧ readHL s = [] := by
  unfold readHC readHL; rw [if_neg h, if_neg h, hr]; exact ⟨rfl, if_neg hL⟩
theorem readH_ok {s : ByteArray} {L : List Hdr} (h : ¬ 6000 < s.size) (hr : readT s.data.toList = some L) (hL : headsC L = 0) : readHC s = 0 ∧ readHL s = L := by
  unfold readHC readHL; rw [if_neg h, if_neg h, hr]; exact ⟨hL, if_pos hL⟩
theorem readHL_len (s : ByteArray) : (readHL s).length ≤ 20 := by
  unfold readHL
  by_cases h : 6000 < s.size
  · rw [if_pos h]; exact Nat.zero_le _
  · rw [if_neg h]
    split
    · exact Nat.zero_le _
    · split
      · rename_i hc; exact (headsC_zero hc).1
      · exact Nat.zero_le _
end Go.Proofs.YtlbagfaiiileoaaGreatDoor
/-
  Head lines that were packed are read back, plainly. No Go in sight.
-/
namespace Go.Proofs.YtlbagfaiiileoaaGreatDoor
theorem trim_space {v : List UInt8} (h : Lib.trimS v [32, 9] = v) : Lib.trimS (32 :: v) [32, 9] = v := by
  unfold Lib.trimS Lib.trimLeftS Lib.trimRightS at *
  have p32 : ([32, 9] : List UInt8).contains 32 = true := by decide
  generalize hp : (fun x => ([32, 9] : List UInt8).contains x) = p at *
  have q32 : p 32 = true := by rw [← hp]; exact p32
  have l1 : ((v.reverse.dropWhile p).reverse.dropWhile p).length ≤ (v.reverse.dropWhile p).reverse.length := (List.dropWhile_sublist p).length_le
  have l2 : (v.reverse.dropWhile p).length ≤ v.reverse.length := (List.dropWhile_sublist p).length_le
  rw [h] at l1
  rw [List.length_reverse] at l1
  have e1 : v.reverse.dropWhile p = v.reverse := (List.dropWhile_sublist p).eq_of_length (by rw [List.length_reverse] at l2 ⊢; omega)
  rw [e1, List.reverse_reverse] at h
  cases hv : v.reverse with
  | nil =>
    have : v = [] := by simpa using hv
    subst this
    simp [q32]
  | cons x t =>
    rw [hv] at e1
    have hx : p x = false := by
      cases hpx : p x with
      | false => rfl
      | true =>
        rw [List.dropWhile_cons_of_pos hpx] at e1
        have := (List.dropWhile_sublist p (l := t)).length_le
        rw [e1, List.length_cons] at this
        omega
    have e2 : (32 :: v).reverse.dropWhile p = (32 :: v).reverse := by
      rw [List.reverse_cons, hv, List.cons_append, List.dropWhile_cons_of_neg (by rw [hx]; decide)]
    rw [e2, List.reverse_reverse, List.dropWhile_cons_of_pos q32]
    exact h
theorem crAt_line : ∀ (b r : List UInt8), (∀ c ∈ b, c ≠ 13) → crAt (b ++ 13 :: 10 :: r) = b.length
  | [], r, _ => by simp [crAt]
  | c :: b, r, h => by
    have ih := crAt_line b r (fun c hc => h c (by simp [hc]))
    obtain ⟨d, t, e⟩ : ∃ d t, b ++ 13 :: 10 :: r = d :: t := by cases b <;> simp
    rw [List.cons_append, e, crAt, if_neg (fun x => h c (by simp) x.1), ← e, ih]
    simp only [List.length_cons]; omega
theorem clAt_line : ∀ (n t : List UInt8), (∀ c ∈ n, c ≠ 58) → clAt (n ++ 58 :: t) = n.length
  | [], t, _ => by simp [clAt]
  | c :: n, t, h => by
    have ih := clAt_line n t (fun c hc => h c (by simp [hc]))
    rw [List.cons_append, clAt, if_neg (h c (by simp)), ih]
    simp only [List.length_cons]; omega
theorem word_mem {s : ByteArray} (h : wordS s = true) : ∀ c ∈ s.data.toList, c ≠ 58 ∧ c ≠ 13 := by
  have h2 : allW s.data.toList = true := by
    simp only [wordS, Bool.and_eq_true] at h
    exact h.2
  intro c hc
  have := List.all_eq_true.1 h2 c hc
  refine ⟨fun e => ?_, fun e => ?_⟩ <;> subst e <;> revert this <;> decide +kernel
theorem plain_mem {l : List UInt8} (h : plainL l = true) : ∀ c ∈ l, c ≠ 13 := by
  intro c hc e
  have := List.all_eq_true.1 h c hc
  subst e
  revert this
  decide
theorem lineOf_back {r : Hdr} (h : faultH r = 0) : lineOf (r.name.data.toList ++ 58 :: 32 :: r.value.data.toList) = r := by
  obtain ⟨hw, _, _, ht⟩ := faultH_zero h
  have hc := clAt_line r.name.data.toList (32 :: r.value.data.toList) (fun c hc => (word_mem hw c hc).1)
  unfold lineOf
  rw [hc, List.take_left]
  have e2 : (r.name.data.toList ++ 58 :: 32 :: r.value.data.toList).drop (r.name.data.toList.length + 1) = 32 :: r.value.data.toList := by
    rw [← List.drop_drop, List.drop_left]; rfl
  rw [e2]
  obtain ⟨n, v⟩ := r
  simp only at *
  have hn : hmk n.data.toList = n := (hof_list rfl).symm
  have hvv : trimT (hmk (32 :: v.data.toList)) = v := by
    have hv : Lib.trimS v.data.toList [32, 9] = v.data.toList := by
      have := congrArg (fun b : ByteArray => b.data.toList) ht
      simpa [trimT] using this
    unfold trimT
    rw [hmk_list, trim_space hv]
  rw [hn, hvv]
theorem read_pack : ∀ l : List Hdr, (∀ r ∈ l, faultH r = 0) → readT (packL l) = some l
  | [], _ => readT_nil
  | r :: l, h => by
    have ih := read_pack l (fun q hq => h q (by simp [hq]))
    have h0 := h r (by simp)
    obtain ⟨hw, hz, hp, ht⟩ := faultH_zero h0
    have hb := lineOf_back h0
    have hcl := clAt_line r.name.data.toList (32 :: r.value.data.toList) (fun c hc => (word_mem hw c hc).1)
    have e : packL (r :: l) = (r.name.data.toList ++ 58 :: 32 :: r.value.data.toList) ++ 13 :: 10 :: packL l := by simp [packL, lineL]
    have h13 : ∀ c ∈ r.name.data.toList ++ 58 :: 32 :: r.value.data.toList, c ≠ 13 := by
      intro c hc
      simp only [List.mem_append, List.mem_cons] at hc
      rcases hc with hc | rfl | rfl | hc
      · exact (word_mem hw c hc).2
      · decide
      · decide
      · exact plain_mem hp c hc
    have hlt : clAt (r.name.data.toList ++ 58 :: 32 :: r.value.data.toList) < (r.name.data.toList ++ 58 :: 32 :: r.value.data.toList).length := by rw [hcl]; simp only [List.length_append, List.length_cons]; omega
    rw [e]
    generalize r.name.data.toList ++ 58 :: 32 :: r.value.data.toList = b at *
    have hc := crAt_line b (packL l) h13
    have t1 : (b ++ 13 :: 10 :: packL l).take b.length = b := List.take_left
    have t2 : (b ++ 13 :: 10 :: packL l).drop (b.length + 2) = packL l := by rw [← List.drop_drop, List.drop_left]; rfl
    rw [readT_take (by rw [hc]; simp only [List.length_append, List.length_cons]; omega) (by rw [hc, t1]; exact hlt), hc, t1, t2, ih, hb]
    rfl
theorem packL_len4 : ∀ l : List Hdr, (∀ r ∈ l, faultH r = 0) → (packL l).length ≤ l.length * 268
  | [], _ => by simp [packL]
  | r :: l, h => by
    have ih := packL_len4 l (fun q hq => h q (by simp [hq]))
    have := lineL_len (h r (by simp))
    have e : packL (r :: l) = lineL r ++ packL l := by simp [packL]
    rw [e, List.length_append, List.length_cons]
    omega
theorem heads_mem {l : List Hdr} (h : headsC l = 0) : l.length ≤ 20 ∧ ∀ r ∈ l, faultH r = 0 := by
  obtain ⟨h1, h2⟩ := headsC_zero h
  refine ⟨h1, fun r hr => ?_⟩
  obtain ⟨i, hi⟩ := List.mem_iff_getElem?.1 hr
  exact h2 i r hi
theorem heads_of {l : List Hdr} (h1 : l.length ≤ 20) (h2 : ∀ r ∈ l, faultH r = 0) : headsC l = 0 := by rw [headsC_few (by omega)]; exact faultHL_of l h2
theorem pack_read {l : List Hdr} (h : headsC l = 0) : readHC (packT l) = 0 ∧ readHL (packT l) = l := by
  obtain ⟨h1, h2⟩ := heads_mem h
  have hl := packL_len4 l h2
  have hr := read_pack l h2
  rw [packT_ok h]
  exact readH_ok (by show ¬ 6000 < (packL l).toArray.size; rw [List.size_toArray]; omega) hr h
theorem read_heads {s : ByteArray} (h : readHC s = 0) : headsC (readHL s) = 0 := by
  by_cases c : 6000 < s.size
  · rw [(readH_long c).1] at h; omega
  · cases hr : readT s.data.toList with
    | none => rw [(readH_bad c hr).1] at h; omega
    | some L =>
      by_cases hL : headsC L = 0
      · rw [(readH_ok c hr hL).2]; exact hL
      · rw [(readH_fault c hr hL).1] at h; exact absurd h hL
end Go.Proofs.YtlbagfaiiileoaaGreatDoor
/-
  What an entry costs, by the specification.
-/
namespace Go.Proofs.YtlbagfaiiileoaaGreatDoor
open Go.ChangeShapes Go.WideShapes Go.ChangeAt Go.RowKit Go.Sort
/-- What an entry costs that has no fault. -/
def costN (key : ByteArray) (hs : List Hdr) (bn : Nat) : Int := 50 + ((key.size : Int) + ((packL hs).length : Int) + (bn : Int))
set_option maxHeartbeats 2000000 in
theorem l8Cost_at (w : World) (b off : Nat) (key : ByteArray) (ha : Option Addr) (hc : Nat) (hs : List Hdr) (ba : Option Addr) (bn bc : Nat)
    (h0 : w.cell? ⟨b, off, none⟩ = some (.string key)) (h2 : w.cell? ⟨b, off + 2, none⟩ = some (.slice ha hs.length hc)) (h3 : w.cell? ⟨b, off + 3, none⟩ = some (.slice ba bn bc))
    (hk : key.size ≤ 500) (hb : bn ≤ 2000) (hh : headsC hs = 0) (hH : HdsIn w ha hs) :
    Calls Tryz.prog 159 #[.pointer (some ⟨b, off, none⟩)] w fun r w' => r = .returned (.int .i64 (costN key hs bn)) ∧ Below w.heap.size w w' := by
  obtain ⟨h20, hfl⟩ := headsC_zero hh
  have hlen := packL_len4 hs (fun r hr => by obtain ⟨i, hi⟩ := List.mem_iff_getElem?.1 hr; exact hfl i r hi)
  have HC : Hid (∀ X, Below w.heap.size w X → Calls Tryz.prog 209 #[.slice ha hs.length hc] X fun e w' => e = .returned (.string ⟨(packL hs).toArray⟩) ∧ Below X.heap.size X w') := fun X hX => l4Pack_any X ha hc hs (by omega) (fun i r hr => by obtain ⟨x1, x2, _⟩ := faultH_zero (hfl i r hr); exact ⟨Nat.le_trans (hword_max x1) (by omega), by omega⟩) (hH.keep hX)
  have hsz : ((⟨(packL hs).toArray⟩ : ByteArray).size : Int) = ((packL hs).length : Int) := by simp [ByteArray.size]
  unfold costN
  have hlt : b < w.heap.size := block_lt_of_cell h0
  have HKS : Hid (∀ X, Below w.heap.size w X → X.cell? ⟨b, off, none⟩ = some (.string key) ∧ X.cell? ⟨b, off + 2, none⟩ = some (.slice ha hs.length hc) ∧ X.cell? ⟨b, off + 3, none⟩ = some (.slice ba bn bc)) := fun X hX => ⟨by rw [hX.cell (p := ⟨b, off, none⟩) hlt]; exact h0, by rw [hX.cell (p := ⟨b, off + 2, none⟩) hlt]; exact h2, by rw [hX.cell (p := ⟨b, off + 3, none⟩) hlt]; exact h3⟩
  generalize hP : (⟨(packL hs).toArray⟩ : ByteArray) = pk at *
  rw [← hsz]
  have hpk : pk.size ≤ 5360 := by omega
  clear hH hfl hlen hsz hh hP h20 h2 h3
  generalize hs.length = hl at *
  have B0 : Hid (Below w.heap.size w w.drew) := (Below.refl _ _).drew
  go_enter Tryz.func159, Tryz.ntmps159
  go_wp2_with fail
  go_region_held3 (fun X => X.cell? ⟨b, off, none⟩ = some (.string key) ∧ X.cell? ⟨b, off + 2, none⟩ = some (.slice ha hl hc) ∧ X.cell? ⟨b, off + 3, none⟩ = some (.slice ba bn bc))
    (first | exact HKS.out _ BA.out | exact HKS.out _ B0.out)
    (first | (go_at_call 209; refine (HC.out _ B0.out).mono ?_; rintro e0 wa ⟨rfl, hba⟩; have BA : Hid (Below w.heap.size w wa) := B0.out.trans (hba.mono B0.out.size); clear hba))
  all_goals
    have e1 : IntKind.i64.wrap ((key.size : Int) + (pk.size : Int)) = (key.size : Int) + (pk.size : Int) := by
      unfold IntKind.wrap; simp [IntKind.signed, IntKind.bits]; omega
    have e2 : IntKind.i64.wrap ((key.size : Int) + (pk.size : Int) + (bn : Int)) = (key.size : Int) + (pk.size : Int) + (bn : Int) := by
      unfold IntKind.wrap; simp [IntKind.signed, IntKind.bits]; omega
    have e3 : IntKind.i64.wrap (50 + ((key.size : Int) + (pk.size : Int) + (bn : Int))) = 50 + ((key.size : Int) + (pk.size : Int) + (bn : Int)) := by
      unfold IntKind.wrap; simp [IntKind.signed, IntKind.bits]; omega
    go_wp2_with fail
    rw [e1, e2, e3]
    go_ret
    exact ⟨rfl, BA.out⟩
end Go.Proofs.YtlbagfaiiileoaaGreatDoor
/-
  What is kept with an answer: ages and phases, on both sides.
-/
namespace Go.Proofs.YtlbagfaiiileoaaGreatDoor
open Go.ChangeShapes Go.WideShapes Go.ChangeAt Go.RowKit Go.Sort
theorem meta_ir (w w1 : World) (t g l s e : Int) (b1 b2 : Bool) (hb : Below (w.heap.size + 2) ((w.alloc (.cells #[.int .i64 t, .int .i64 g, .int .i64 l, .int .i64 s, .int .i64 e, .bool b1, .bool b2] 161)).alloc (.cells #[.int .i64 0, .int .i64 0] 78)) w1) : Below w.heap.size w w1 ∧ MetaAt w1 w.heap.size t g l s e b1 b2 ∧ IR w1 (w.heap.size + 1) (.int .i64 0) (.int .i64 0) := by
  obtain ⟨u, hu⟩ : ∃ X, X = w.alloc (.cells #[.int .i64 t, .int .i64 g, .int .i64 l, .int .i64 s, .int .i64 e, .bool b1, .bool b2] 161) := ⟨_, rfl⟩
  have a1 : Below w.heap.size w u := by rw [hu]; exact (Below.refl _ _).alloc (Nat.le_refl _) _
  have p1 : MetaAt u w.heap.size t g l s e b1 b2 := by rw [hu]; exact MetaAt.new w t g l s e b1 b2 _
  have ez : u.heap.size = w.heap.size + 1 := by rw [hu]; simp
  rw [← hu] at hb
  have i1 := IR.new u (.int .i64 0) (.int .i64 0) 78
  have a2 : Below u.heap.size u (u.alloc (.cells #[.int .i64 0, .int .i64 0] 78)) := (Below.refl _ _).alloc (Nat.le_refl _) _
  have hb' : Below (u.alloc (.cells #[.int .i64 0, .int .i64 0] 78)).heap.size (u.alloc (.cells #[.int .i64 0, .int .i64 0] 78)) w1 := by
    have : (u.alloc (.cells #[.int .i64 0, .int .i64 0] 78)).heap.size = w.heap.size + 2 := by simp [ez]
    rw [this]; exact hb
  refine ⟨a1.trans ((a2.mono a1.size).trans (hb.mono (by omega))), (p1.keep a2).keep hb', ?_⟩
  rw [← ez]
  exact i1.keep hb'
def firstP (b1 b2 : Bool) : Int := if b2 = true then 3 else if b1 = true then 2 else 1
end Go.Proofs.YtlbagfaiiileoaaGreatDoor
/-
  CostOf, by the specification.
-/
namespace Go.Proofs.YtlbagfaiiileoaaGreatDoor
open Go.ChangeShapes Go.WideShapes Go.ChangeAt Go.RowKit Go.Sort
theorem entryC_zero {key : ByteArray} {st pins : Int} {hs : List Hdr} {bn tn : Nat} {t g l s e : Int} (h : entryC key st pins hs bn tn t g l s e = 0) : (1 ≤ key.size ∧ key.size ≤ 500) ∧ stB st = true ∧ pinB pins = true ∧ headsC hs = 0 ∧ bn ≤ 2000 ∧ tn ≤ 10 ∧ metaC t g l s e = 0 := by
  unfold entryC at h
  split at h
  · omega
  split at h
  · omega
  split at h
  · contradiction
  split at h
  · omega
  rename_i c1 c2 c3 c4
  have hb : stB st = true ∧ pinB pins = true := by cases x : stB st <;> cases y : pinB pins <;> simp_all
  exact ⟨by omega, hb.1, hb.2, by omega, by omega, by omega, h⟩
end Go.Proofs.YtlbagfaiiileoaaGreatDoor
/-
  What a store's fault is, plainly; what entries cost, by the model.
-/
namespace Go.Proofs.YtlbagfaiiileoaaGreatDoor
open Go.ChangeShapes Go.WideShapes Go.ChangeAt Go.RowKit Go.Sort
def entC (x : Ent) : Int := entryC x.key x.st x.pins x.hs x.bl.length x.ts.length x.t x.g x.l x.s x.e
def entN (x : Ent) : Int := costN x.key x.hs x.bl.length
def faultE : List Ent → Int
  | [] => 0
  | x :: l => if entC x ≠ 0 then entC x else faultE l
def costsE : List Ent → Int
  | [] => 0
  | x :: l => entN x + costsE l
def keysE (l : List Ent) : List (List UInt8) := l.map (fun x => x.key.toList)
def dupE (l : List Ent) : Bool := !decide (keysE l).Nodup
def storeC (bu gu : Int) (tl kl : List Ent) : Int :=
  if bu < 0 ∨ 1000000 < bu ∨ gu < 0 ∨ bu < gu then 3 else
  if 40 < tl.length + kl.length then 2 else
  if faultE (tl ++ kl) ≠ 0 then faultE (tl ++ kl) else
  if dupE (tl ++ kl) = true then 6 else
  if bu < costsE (tl ++ kl) ∨ gu < costsE kl then 7 else 0
theorem faultE_zero : ∀ {l : List Ent}, faultE l = 0 → ∀ x ∈ l, entC x = 0
  | [], _, x, hx => by simp at hx
  | y :: l, h, x, hx => by
    unfold faultE at h
    by_cases c : entC y = 0
    · rw [if_neg (by simpa using c)] at h
      rcases List.mem_cons.1 hx with rfl | hx
      · exact c
      · exact faultE_zero h x hx
    · rw [if_pos c] at h; exact absurd h c
theorem faultE_app (l m : List Ent) (h : faultE (l ++ m) = 0) : faultE l = 0 ∧ faultE m = 0 := by
  induction l with
  | nil => exact ⟨rfl, h⟩
  | cons x l ih =>
    simp only [List.cons_append, faultE] at h ⊢
    by_cases c : entC x = 0
    · rw [if_neg (by simpa using c)] at h ⊢; exact ih h
    · rw [if_pos c] at h; exact absurd h c
theorem entN_le {x : Ent} (h : entC x = 0) : 0 ≤ entN x ∧ entN x ≤ 8000 := by
  obtain ⟨z1, _, _, z4, z5, _, _⟩ := entryC_zero h
  obtain ⟨h20, hfl⟩ := headsC_zero z4
  have hlen := packL_len4 x.hs (fun r hr => by obtain ⟨i, hi⟩ := List.mem_iff_getElem?.1 hr; exact hfl i r hi)
  unfold entN costN
  omega
theorem costsE_le : ∀ (l : List Ent), (∀ x ∈ l, entC x = 0) → 0 ≤ costsE l ∧ costsE l ≤ 8000 * l.length
  | [], _ => ⟨by simp [costsE], by simp [costsE]⟩
  | x :: l, h => by
    have a := entN_le (h x (by simp))
    have b := costsE_le l (fun y hy => h y (by simp [hy]))
    simp only [costsE, List.length_cons]
    omega
theorem costsE_app (l m : List Ent) : costsE (l ++ m) = costsE l + costsE m := by
  induction l with
  | nil => simp [costsE]
  | cons x l ih => simp only [List.cons_append, costsE, ih]; omega
set_option maxRecDepth 100000 in
set_option maxHeartbeats 4000000 in
theorem l8Costs_any (w : World) (a : Option Addr) (cap : Nat) (l : List (Ent × EntR)) (hl : l.length ≤ 40) (hi : EntsIn w a l) (hz : ∀ q ∈ l, entC q.1 = 0) :
    Calls Tryz.prog 90 #[.slice a l.length cap] w fun e w' => e = .returned (.int .i64 (costsE (l.map Prod.fst))) ∧ Below w.heap.size w w' := by
  have HI : Hid (EntsIn w a l) := hi
  have HZ : Hid (∀ q ∈ l, entC q.1 = 0) := hz
  clear hi hz
  obtain ⟨S, hS⟩ : ∃ S, Hid (costsE (l.map Prod.fst) = S) := ⟨_, rfl⟩
  rw [hS.out]
  generalize hn : l.length = n at *
  have HN : Hid (l.length = n) := hn
  clear hn
  go_enter Tryz.func90, Tryz.ntmps90
  go_wp2_with fail
  go_loopw [3, 4] (fun x i wr => ∃ (k : Nat) (c : Int), k ≤ n ∧ i = .int .i64 k ∧ x = .int .i64 c ∧ 0 ≤ c ∧ c ≤ 8000 * k ∧ S = c + costsE ((l.map Prod.fst).drop k) ∧ Below w.heap.size w wr) (fun _ i _ => n - (intOf i).toNat)
  case atStart => exact ⟨0, 0, Nat.zero_le _, rfl, rfl, by omega, by omega, by rw [← hS.out]; simp, Below.refl _ _⟩
  case round =>
    obtain ⟨k, c, hk, rfl, rfl, c2, c3, hs, hb⟩ := hrel
    have HS : Hid (S = c + costsE ((l.map Prod.fst).drop k)) := hs
    clear hs hS
    by_cases hlt : k < n
    · obtain ⟨q, hr⟩ : ∃ r, l[k]? = some r := ⟨l[k]'(by have := HN.out; omega), List.getElem?_eq_getElem _⟩
      rcases HI.out with h | ⟨b, off, rfl, hat⟩
      · subst h; simp at hr
      have PC := (hat.keep hb).cells hr
      have hin := (hat.keep hb).in hr
      have h0 := HZ.out q (List.mem_of_getElem? hr)
      have hle := entN_le h0
      have HS2 : Hid (S = c + entN q.1 + costsE ((l.map Prod.fst).drop (k + 1))) := by
        show _ = _
        obtain ⟨hk2, hr2⟩ := List.getElem?_eq_some_iff.1 hr
        rw [HS.out, List.drop_eq_getElem_cons (i := k) (by simpa using hk2), costsE]
        simp [hr2]
        omega
      have C : Hid (Calls Tryz.prog 159 #[.pointer (some ⟨b, off + k * 13, none⟩)] wr fun r w' => r = .returned (.int .i64 (entN q.1)) ∧ Below wr.heap.size wr w') := by
        obtain ⟨z1, _, _, z4, z5, _, _⟩ := entryC_zero h0
        exact l8Cost_at wr b (off + k * 13) q.1.key q.2.ha q.2.hc q.1.hs q.2.ba q.1.bl.length q.2.bc PC.1 PC.2.2.1 PC.2.2.2.1 z1.2 z5 z4 hin.h
      have g : (k : Int) < n := by omega
      have g0 : (0 : Int) ≤ k := by omega
      clear HS hr hat HI HZ PC hin h0
      generalize entN q.1 = en at *
      have e1 : IntKind.i64.wrap (c + en) = c + en := by
        unfold IntKind.wrap; simp [IntKind.signed, IntKind.bits]; omega
      go_wp2_with fail
      refine C.out.mono ?_
      rintro r w2 ⟨rfl, hb2⟩
      have HB2 : Hid (Below w.heap.size w w2) := hb.trans (hb2.mono hb.size)
      clear hb2 C hb
      go_wp2_with fail
      go_roundw
      case rel => exact ⟨k + 1, c + en, by omega, by go_num, by first | rfl | rw [e1], by omega, by omega, HS2.out, HB2.out⟩
      case measure => simp [intOf]; omega
    · have HF : Hid (S = c) := by
        show _ = _
        rw [HS.out, List.drop_of_length_le (by have := HN.out; simp; omega), costsE]
        omega
      clear HS
      go_wp2_with fail
      go_ret
      exact ⟨ret_int HF.out.symm, hb⟩
end Go.Proofs.YtlbagfaiiileoaaGreatDoor
/-
  Is it a key? The program's answer.
-/
namespace Go.Proofs.YtlbagfaiiileoaaGreatDoor
open Go.ChangeShapes Go.WideShapes Go.ChangeAt Go.RowKit Go.Sort
set_option maxHeartbeats 2000000 in
theorem isKey_one (key : ByteArray) (b : Bool) (hb : decide (1 ≤ key.size ∧ key.size ≤ 500) = b) (w : World) : Calls Tryz.prog 171 #[.string key] w fun r w' => r = .returned (.bool b) ∧ w' = w := by
  by_cases c1 : key.size < 1
  · have e : b = false := by rw [← hb]; simp; omega
    subst e
    clear hb
    go_enter Tryz.func171, Tryz.ntmps171
    go_wp2_with fail
    go_ret
    exact ⟨rfl, rfl⟩
  · by_cases c2 : 500 < key.size
    · have e : b = false := by rw [← hb]; simp; omega
      subst e
      clear hb
      go_enter Tryz.func171, Tryz.ntmps171
      go_wp2_with fail
      go_ret
      have d : decide ((key.size : Int) ≤ 500) = false := by simp; omega
      exact ⟨by simp [d], rfl⟩
    · have e : b = true := by rw [← hb]; simp; omega
      subst e
      clear hb
      go_enter Tryz.func171, Tryz.ntmps171
      go_wp2_with fail
      go_ret
      have d : decide ((key.size : Int) ≤ 500) = true := by simp; omega
      exact ⟨by simp [d], rfl⟩
end Go.Proofs.YtlbagfaiiileoaaGreatDoor
/-
  Is it an entry? The program's answer.
-/
namespace Go.Proofs.YtlbagfaiiileoaaGreatDoor
open Go.ChangeShapes Go.WideShapes Go.ChangeAt Go.RowKit Go.Sort
set_option maxHeartbeats 8000000 in
theorem implEntry_any (w : World) (key : ByteArray) (st : Int) (ha : Option Addr) (hc : Nat) (ba : Option Addr) (bc : Nat) (t g l s e : Int) (b1 b2 : Bool) (ta : Option Addr) (tc : Nat) (pins : Int) (hs : List Hdr) (bn tn : Nat) (hk : key.size ≤ maxLen) (hhl : hs.length ≤ 1048576) (hbn : bn ≤ maxLen) (htn : tn ≤ maxLen) (hset : SetIs w) (hH : HdsIn w ha hs) :
    Calls Tryz.prog 107 #[.agg #[.string key, .int .i64 st, .slice ha hs.length hc, .slice ba bn bc, .int .i64 t, .int .i64 g, .int .i64 l, .int .i64 s, .int .i64 e, .bool b1, .bool b2, .slice ta tn tc, .int .i64 pins]] w fun r w' => r = .returned (.int .i64 (entryC key st pins hs bn tn t g l s e)) ∧ Below w.heap.size w w' := by
  have HK : Hid (Below w.heap.size w (w.alloc (.cells #[.string key, .int .i64 st, .slice ha hs.length hc, .slice ba bn bc, .int .i64 t, .int .i64 g, .int .i64 l, .int .i64 s, .int .i64 e, .bool b1, .bool b2, .slice ta tn tc, .int .i64 pins] 163)) ∧ E13 (w.alloc (.cells #[.string key, .int .i64 st, .slice ha hs.length hc, .slice ba bn bc, .int .i64 t, .int .i64 g, .int .i64 l, .int .i64 s, .int .i64 e, .bool b1, .bool b2, .slice ta tn tc, .int .i64 pins] 163)) w.heap.size (.string key) (.int .i64 st) (.slice ha hs.length hc) (.slice ba bn bc) (.int .i64 t) (.int .i64 g) (.int .i64 l) (.int .i64 s) (.int .i64 e) (.bool b1) (.bool b2) (.slice ta tn tc) (.int .i64 pins)) := ⟨(Below.refl _ _).alloc (Nat.le_refl _) _, E13.new w _ _ _ _ _ _ _ _ _ _ _ _ _ _⟩
  have HI : Hid (∀ w, Calls Tryz.prog 172 #[.int .i64 st] w fun r w' => r = .returned (.bool (stB st)) ∧ w' = w) := mayKeep_any st
  have HH : Hid (∀ X, Below w.heap.size w X → Calls Tryz.prog 173 #[.slice ha hs.length hc] X fun e w' => e = .returned (.int .i64 (headsC hs)) ∧ Below X.heap.size X w') := fun X hb => implHFault_any X ha hc hs hhl (hset.below hb) (hH.keep hb)
  have HM : Hid (∀ X, Calls Tryz.prog 174 #[.agg #[.int .i64 t, .int .i64 g, .int .i64 l, .int .i64 s, .int .i64 e, .bool b1, .bool b2]] X fun r w' => r = .returned (.int .i64 (metaC t g l s e)) ∧ Below X.heap.size X w') := fun X => implMeta_any t g l s e b1 b2 X
  obtain ⟨Z, hZ⟩ : ∃ Z, entryC key st pins hs bn tn t g l s e = Z := ⟨_, rfl⟩
  rw [hZ]
  unfold entryC at hZ
  obtain ⟨hcd, hhc⟩ : ∃ x, headsC hs = x := ⟨_, rfl⟩
  obtain ⟨mcd, hmc⟩ : ∃ x, metaC t g l s e = x := ⟨_, rfl⟩
  obtain ⟨sb, hsb⟩ : ∃ x, stB st = x := ⟨_, rfl⟩
  rw [hhc] at HH hZ
  rw [hmc] at HM hZ
  rw [hsb] at HI hZ
  clear hhc hmc hsb hH hhl hset
  generalize hs.length = hl at *
  unfold maxLen at hk hbn htn
  have HZ : Hid (_ = Z) := hZ
  clear hZ
  by_cases c1 : key.size < 1
  · have HIK : Hid (∀ w, Calls Tryz.prog 171 #[.string key] w fun r w' => r = .returned (.bool false) ∧ w' = w) := fun w => isKey_one key false (by simp; omega) w
    have HR := HZ.out
    rw [if_pos (.inl c1)] at HR
    rw [← HR]
    clear HR HZ
    go_enter Tryz.func107, Tryz.ntmps107
    go_wp2_with fail
    refine (HIK.out _).mono ?_
    rintro r wk ⟨rfl, rfl⟩
    go_wp2_with fail
    go_ret
    exact ⟨rfl, HK.out.1⟩
  by_cases c2 : 500 < key.size
  · have HIK : Hid (∀ w, Calls Tryz.prog 171 #[.string key] w fun r w' => r = .returned (.bool false) ∧ w' = w) := fun w => isKey_one key false (by simp; omega) w
    have HR := HZ.out
    rw [if_pos (.inr c2)] at HR
    rw [← HR]
    clear HR HZ
    go_enter Tryz.func107, Tryz.ntmps107
    go_wp2_with fail
    refine (HIK.out _).mono ?_
    rintro r wk ⟨rfl, rfl⟩
    go_wp2_with fail
    go_ret
    exact ⟨rfl, HK.out.1⟩
  have HIK : Hid (∀ w, Calls Tryz.prog 171 #[.string key] w fun r w' => r = .returned (.bool true) ∧ w' = w) := fun w => isKey_one key true (by simp; omega) w
  rw [if_neg (by omega)] at HZ
  cases sb
  · have HR := HZ.out
    rw [if_pos (Bool.false_and _)] at HR
    rw [← HR]
    clear HR HZ
    go_enter Tryz.func107, Tryz.ntmps107
    go_wp2_with fail
    refine (HIK.out _).mono ?_
    rintro r wk ⟨rfl, rfl⟩
    go_wp2_with fail
    refine (HI.out _).mono ?_
    rintro r w1 ⟨rfl, rfl⟩
    go_wp2_with fail
    go_ret
    exact ⟨rfl, HK.out.1⟩
  rw [Bool.true_and] at HZ
  by_cases p1 : pins < 0
  · have HR := HZ.out
    rw [if_pos (by unfold pinB; simp; omega)] at HR
    rw [← HR]
    clear HR HZ
    go_enter Tryz.func107, Tryz.ntmps107
    go_wp2_with fail
    refine (HIK.out _).mono ?_
    rintro r wk ⟨rfl, rfl⟩
    go_wp2_with fail
    refine (HI.out _).mono ?_
    rintro r w1 ⟨rfl, rfl⟩
    have q12 := HK.out.2.c12
    go_wp2_with fail
    go_ret
    exact ⟨rfl, HK.out.1⟩
  by_cases p2 : 20 < pins
  · have HR := HZ.out
    rw [if_pos (by unfold pinB; simp; omega)] at HR
    rw [← HR]
    clear HR HZ
    go_enter Tryz.func107, Tryz.ntmps107
    go_wp2_with fail
    refine (HIK.out _).mono ?_
    rintro r wk ⟨rfl, rfl⟩
    go_wp2_with fail
    refine (HI.out _).mono ?_
    rintro r w1 ⟨rfl, rfl⟩
    have q12 := HK.out.2.c12
    go_wp2_with fail
    go_ret
    exact ⟨rfl, HK.out.1⟩
  rw [if_neg (by unfold pinB; simp; omega)] at HZ
  by_cases c3 : hcd ≠ 0
  · have HR := HZ.out
    rw [if_pos c3] at HR
    rw [← HR]
    clear HR HZ
    go_enter Tryz.func107, Tryz.ntmps107
    go_wp2_with fail
    refine (HIK.out _).mono ?_
    rintro r wk ⟨rfl, rfl⟩
    go_wp2_with fail
    refine (HI.out _).mono ?_
    rintro r w1 ⟨rfl, rfl⟩
    have q12 := HK.out.2.c12
    have q2 := HK.out.2.c2
    go_wp2_with fail
    refine (HH.out _ HK.out.1).mono ?_
    rintro r w2 ⟨rfl, hb2⟩
    have HB2 : Hid (Below w.heap.size w w2) := HK.out.1.trans (hb2.mono HK.out.1.size)
    clear hb2
    go_wp2_with fail
    go_ret
    exact ⟨rfl, HB2.out⟩
  rw [if_neg c3] at HZ
  have c3' : hcd = 0 := by omega
  subst c3'
  clear c3
  by_cases c4 : 2000 < bn
  · have HR := HZ.out
    rw [if_pos (.inl c4)] at HR
    rw [← HR]
    clear HR HZ
    go_enter Tryz.func107, Tryz.ntmps107
    go_wp2_with fail
    refine (HIK.out _).mono ?_
    rintro r wk ⟨rfl, rfl⟩
    go_wp2_with fail
    refine (HI.out _).mono ?_
    rintro r w1 ⟨rfl, rfl⟩
    have q12 := HK.out.2.c12
    have q2 := HK.out.2.c2
    go_wp2_with fail
    refine (HH.out _ HK.out.1).mono ?_
    rintro r w2 ⟨rfl, hb2⟩
    have HK2 : Hid (Below w.heap.size w w2 ∧ E13 w2 w.heap.size (.string key) (.int .i64 st) (.slice ha hl hc) (.slice ba bn bc) (.int .i64 t) (.int .i64 g) (.int .i64 l) (.int .i64 s) (.int .i64 e) (.bool b1) (.bool b2) (.slice ta tn tc) (.int .i64 pins)) := ⟨HK.out.1.trans (hb2.mono HK.out.1.size), HK.out.2.keep hb2⟩
    clear hb2
    have k3 := HK2.out.2.c3
    have k4 := HK2.out.2.c4
    have k5 := HK2.out.2.c5
    have k6 := HK2.out.2.c6
    have k7 := HK2.out.2.c7
    have k8 := HK2.out.2.c8
    have k9 := HK2.out.2.c9
    have k10 := HK2.out.2.c10
    have k11 := HK2.out.2.c11
    go_wp2_with fail
    go_ret
    exact ⟨rfl, HK2.out.1⟩
  by_cases c5 : 10 < tn
  · have HR := HZ.out
    rw [if_pos (.inr c5)] at HR
    rw [← HR]
    clear HR HZ
    go_enter Tryz.func107, Tryz.ntmps107
    go_wp2_with fail
    refine (HIK.out _).mono ?_
    rintro r wk ⟨rfl, rfl⟩
    go_wp2_with fail
    refine (HI.out _).mono ?_
    rintro r w1 ⟨rfl, rfl⟩
    have q12 := HK.out.2.c12
    have q2 := HK.out.2.c2
    go_wp2_with fail
    refine (HH.out _ HK.out.1).mono ?_
    rintro r w2 ⟨rfl, hb2⟩
    have HK2 : Hid (Below w.heap.size w w2 ∧ E13 w2 w.heap.size (.string key) (.int .i64 st) (.slice ha hl hc) (.slice ba bn bc) (.int .i64 t) (.int .i64 g) (.int .i64 l) (.int .i64 s) (.int .i64 e) (.bool b1) (.bool b2) (.slice ta tn tc) (.int .i64 pins)) := ⟨HK.out.1.trans (hb2.mono HK.out.1.size), HK.out.2.keep hb2⟩
    clear hb2
    have k3 := HK2.out.2.c3
    have k4 := HK2.out.2.c4
    have k5 := HK2.out.2.c5
    have k6 := HK2.out.2.c6
    have k7 := HK2.out.2.c7
    have k8 := HK2.out.2.c8
    have k9 := HK2.out.2.c9
    have k10 := HK2.out.2.c10
    have k11 := HK2.out.2.c11
    go_wp2_with fail
    go_ret
    exact ⟨rfl, HK2.out.1⟩
  rw [if_neg (by omega)] at HZ
  · rw [← HZ.out]
    clear HZ
    go_enter Tryz.func107, Tryz.ntmps107
    go_wp2_with fail
    refine (HIK.out _).mono ?_
    rintro r wk ⟨rfl, rfl⟩
    go_wp2_with fail
    refine (HI.out _).mono ?_
    rintro r w1 ⟨rfl, rfl⟩
    have q12 := HK.out.2.c12
    have q2 := HK.out.2.c2
    go_wp2_with fail
    refine (HH.out _ HK.out.1).mono ?_
    rintro r w2 ⟨rfl, hb2⟩
    have HK2 : Hid (Below w.heap.size w w2 ∧ E13 w2 w.heap.size (.string key) (.int .i64 st) (.slice ha hl hc) (.slice ba bn bc) (.int .i64 t) (.int .i64 g) (.int .i64 l) (.int .i64 s) (.int .i64 e) (.bool b1) (.bool b2) (.slice ta tn tc) (.int .i64 pins)) := ⟨HK.out.1.trans (hb2.mono HK.out.1.size), HK.out.2.keep hb2⟩
    clear hb2
    have k3 := HK2.out.2.c3
    have k4 := HK2.out.2.c4
    have k5 := HK2.out.2.c5
    have k6 := HK2.out.2.c6
    have k7 := HK2.out.2.c7
    have k8 := HK2.out.2.c8
    have k9 := HK2.out.2.c9
    have k10 := HK2.out.2.c10
    have k11 := HK2.out.2.c11
    go_wp2_with fail
    refine (HM.out _).mono ?_
    rintro r w3 ⟨rfl, hb3⟩
    have HB3 : Hid (Below w.heap.size w w3) := HK2.out.1.trans (hb3.mono HK2.out.1.size)
    clear hb3
    go_wp2_with fail
    go_ret
    exact ⟨rfl, HB3.out⟩
end Go.Proofs.YtlbagfaiiileoaaGreatDoor
