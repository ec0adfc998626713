/-
  Texts of one claim, one behind the other.
-/
import Derived.ChangeArms
import Derived.Deep.CutRange
import Derived.Deep.RegionHeld3
import Derived.Deep.RegionWith
import Derived.Lib.AppendIntMem
import Derived.Lib.ItoaLen
import Derived.Lib.ItoaNum
import Derived.Lib.LaidTab
import Derived.MakeChecks
import Derived.Shelf.Strconv.Itoa4
import Derived.Stop.LaidErr
import Derived.Test.YtopkidfbkhjaeaaGreatDoorRows
import Derived.WalkSmall
import Derived.Test.YtopkidfbkhjaeaaGreatDoorMgE
/-
  The law of AnswerOf, over contracts.
-/
namespace Go.Proofs.YtopkidfbkhjaeaaGreatDoor
open Go.ChangeShapes Go.WideShapes Go.ChangeAt Go.RowKit
set_option linter.unusedSimpArgs false in
set_option maxRecDepth 100000 in
set_option maxHeartbeats 32000000 in
theorem walk_Answer (w : World) (ek : ByteArray) (es : Int) (ea : Option Addr) (en ec : Nat) (eb : Option Addr) (ebn ebc : Nat) (e1 e2 e3 e4 e5 : Int) (f1 f2 : Bool) (et : Option Addr) (etn etc : Nat) (ep : Int) (at2 : Int) (src : ByteArray) (hd : Bool) (rc rs : Int) (z1 : Int) (CA1 : Nat → Nat → Nat → Nat → Nat → World → Prop) (CR MR : Option Addr → Nat → Nat → Option Addr → Nat → Nat → Nat → Nat → World → Prop) (k1 q : Int) (HZ1 : Hid (∀ X, Below w.heap.size w X → Calls Tryz.prog 17 #[.agg #[.string ek, .int .i64 es, .slice ea en ec, .slice eb ebn ebc, .int .i64 e1, .int .i64 e2, .int .i64 e3, .int .i64 e4, .int .i64 e5, .bool f1, .bool f2, .slice et etn etc, .int .i64 ep], .int .i64 1048576] X fun e w' => e = .returned (.int .i64 z1) ∧ Below X.heap.size X w'))
    (HT1 : Hid (src.size ≤ 1048576 → ¬ z1 < 0 → ∀ X, Below w.heap.size w X → Calls Tryz.prog 20 #[.agg #[.string ek, .int .i64 es, .slice ea en ec, .slice eb ebn ebc, .int .i64 e1, .int .i64 e2, .int .i64 e3, .int .i64 e4, .int .i64 e5, .bool f1, .bool f2, .slice et etn etc, .int .i64 ep]] X fun e w' => (∃ (K : Nat) (D : Nat) (J : Nat), e = .returned (.agg #[.string ek, .int .i64 es, .slice (some ⟨K, 0, none⟩) en en, .slice (some ⟨D, 0, none⟩) ebn ebn, .int .i64 e1, .int .i64 e2, .int .i64 e3, .int .i64 e4, .int .i64 e5, .bool f1, .bool f2, .slice (some ⟨J, 0, none⟩) etn etn, .int .i64 ep]) ∧ At X.heap.size w'.heap.size (CA1 K D J) w') ∧ Below X.heap.size X w'))
    (HQ1 : Hid (src.size ≤ 1048576 → ¬ z1 < 0 → ∀ X la ha lb hb (Kx : Nat) (Dx : Nat) (Jx : Nat) (Ky : Nat) (Dy : Nat) (Jy : Nat), At la ha (CA1 Kx Dx Jx) X → At lb hb (CA1 Ky Dy Jy) X → Calls Tryz.prog 24 #[.agg #[.string ek, .int .i64 es, .slice (some ⟨Kx, 0, none⟩) en en, .slice (some ⟨Dx, 0, none⟩) ebn ebn, .int .i64 e1, .int .i64 e2, .int .i64 e3, .int .i64 e4, .int .i64 e5, .bool f1, .bool f2, .slice (some ⟨Jx, 0, none⟩) etn etn, .int .i64 ep], .agg #[.string ek, .int .i64 es, .slice (some ⟨Ky, 0, none⟩) en en, .slice (some ⟨Dy, 0, none⟩) ebn ebn, .int .i64 e1, .int .i64 e2, .int .i64 e3, .int .i64 e4, .int .i64 e5, .bool f1, .bool f2, .slice (some ⟨Jy, 0, none⟩) etn etn, .int .i64 ep]] X fun e w' => e = .returned (.bool true) ∧ Below X.heap.size X w'))
    (HM1 : Hid (src.size ≤ 1048576 → ¬ z1 < 0 → ∀ X l h (K : Nat) (D : Nat) (J : Nat), At l h (CA1 K D J) X → w.heap.size ≤ l → Calls Tryz.prog 26 #[.agg #[.string ek, .int .i64 es, .slice (some ⟨K, 0, none⟩) en en, .slice (some ⟨D, 0, none⟩) ebn ebn, .int .i64 e1, .int .i64 e2, .int .i64 e3, .int .i64 e4, .int .i64 e5, .bool f1, .bool f2, .slice (some ⟨J, 0, none⟩) etn etn, .int .i64 ep], .int .i64 1] X fun e w' => e = .returned (.int .i64 k1) ∧ Wi l h X w' ∧ Below w.heap.size X w'))
    (HF : Hid (src.size ≤ 1048576 → ¬ z1 < 0 → ∀ X l1 h1 (K : Nat) (D : Nat) (J : Nat), Below w.heap.size w X → At l1 h1 (CA1 K D J) X → Calls Tryz.prog 38 #[.agg #[.string ek, .int .i64 es, .slice (some ⟨K, 0, none⟩) en en, .slice (some ⟨D, 0, none⟩) ebn ebn, .int .i64 e1, .int .i64 e2, .int .i64 e3, .int .i64 e4, .int .i64 e5, .bool f1, .bool f2, .slice (some ⟨J, 0, none⟩) etn etn, .int .i64 ep], .int .i64 at2, .string src, .bool hd] X fun e w' => (∃ (rar : Option Addr) (rnr : Nat) (rkr : Nat) (rbr : Option Addr) (rmr : Nat) (rlr : Nat), e = .returned (.agg #[.int .i64 rc, .int .i64 rs, .slice rar rnr rkr, .slice rbr rmr rlr]) ∧ At X.heap.size w'.heap.size (CR rar rnr rkr rbr rmr rlr) w') ∧ Below X.heap.size X w'))
    (HG : Hid (src.size ≤ 1048576 → ¬ z1 < 0 → ∀ X l1 h1 (K : Nat) (D : Nat) (J : Nat), Below w.heap.size w X → At l1 h1 (CA1 K D J) X → Calls Tryz.prog 39 #[.agg #[.string ek, .int .i64 es, .slice (some ⟨K, 0, none⟩) en en, .slice (some ⟨D, 0, none⟩) ebn ebn, .int .i64 e1, .int .i64 e2, .int .i64 e3, .int .i64 e4, .int .i64 e5, .bool f1, .bool f2, .slice (some ⟨J, 0, none⟩) etn etn, .int .i64 ep], .int .i64 at2, .string src, .bool hd] X fun e w' => (∃ (rar : Option Addr) (rnr : Nat) (rkr : Nat) (rbr : Option Addr) (rmr : Nat) (rlr : Nat), e = .returned (.agg #[.int .i64 rc, .int .i64 rs, .slice rar rnr rkr, .slice rbr rmr rlr]) ∧ At X.heap.size w'.heap.size (CR rar rnr rkr rbr rmr rlr) w') ∧ Below X.heap.size X w'))
    (HEQ : Hid (src.size ≤ 1048576 → ¬ z1 < 0 → ∀ X la ha lb hb (rax : Option Addr) (rnx : Nat) (rkx : Nat) (rbx : Option Addr) (rmx : Nat) (rlx : Nat) (ray : Option Addr) (rny : Nat) (rky : Nat) (rby : Option Addr) (rmy : Nat) (rly : Nat), At la ha (CR rax rnx rkx rbx rmx rlx) X → At lb hb (CR ray rny rky rby rmy rly) X → Calls Tryz.prog 11 #[.agg #[.int .i64 rc, .int .i64 rs, .slice rax rnx rkx, .slice rbx rmx rlx], .agg #[.int .i64 rc, .int .i64 rs, .slice ray rny rky, .slice rby rmy rly]] X fun e w' => e = .returned (.bool true) ∧ Below X.heap.size X w'))
    (HMR : Hid (src.size ≤ 1048576 → ¬ z1 < 0 → ∀ X l h (rar : Option Addr) (rnr : Nat) (rkr : Nat) (rbr : Option Addr) (rmr : Nat) (rlr : Nat), Below w.heap.size w X → At l h (CR rar rnr rkr rbr rmr rlr) X → w.heap.size ≤ l → Calls Tryz.prog 14 #[.agg #[.int .i64 rc, .int .i64 rs, .slice rar rnr rkr, .slice rbr rmr rlr], .int .i64 1] X fun e w' => e = .returned (.int .i64 q) ∧ At l h (MR rar rnr rkr rbr rmr rlr) w' ∧ Wi l h X w' ∧ Below w.heap.size X w'))
    (HHR : Hid (src.size ≤ 1048576 → ¬ z1 < 0 → ∀ X l h (rar : Option Addr) (rnr : Nat) (rkr : Nat) (rbr : Option Addr) (rmr : Nat) (rlr : Nat), At l h (MR rar rnr rkr rbr rmr rlr) X → Calls Tryz.prog 15 #[.agg #[.int .i64 rc, .int .i64 rs, .slice rar rnr rkr, .slice rbr rmr rlr], .int .i64 1] X fun e w' => e = .returned (.int .i64 q) ∧ Below X.heap.size X w'))
    (hk0 : ¬ k1 < 0) (hq0 : ¬ q < 0) :
    Calls Tryz.prog 6 #[.agg #[.string ek, .int .i64 es, .slice ea en ec, .slice eb ebn ebc, .int .i64 e1, .int .i64 e2, .int .i64 e3, .int .i64 e4, .int .i64 e5, .bool f1, .bool f2, .slice et etn etc, .int .i64 ep], .int .i64 at2, .string src, .bool hd] w fun e w' => e = .returned (.bool true) ∧ Below w.heap.size w w' := by
  obtain ⟨W, hW⟩ : ∃ W, W = (w.alloc (.cells #[.string ek, .int .i64 es, .slice ea en ec, .slice eb ebn ebc, .int .i64 e1, .int .i64 e2, .int .i64 e3, .int .i64 e4, .int .i64 e5, .bool f1, .bool f2, .slice et etn etc, .int .i64 ep] 45)) := ⟨_, rfl⟩
  have HW : Hid (W = (w.alloc (.cells #[.string ek, .int .i64 es, .slice ea en ec, .slice eb ebn ebc, .int .i64 e1, .int .i64 e2, .int .i64 e3, .int .i64 e4, .int .i64 e5, .bool f1, .bool f2, .slice et etn etc, .int .i64 ep] 45))) := hW
  have KW : Hid (Below w.heap.size w W) := by rw [hW]; exact ((Below.refl _ _).alloc (Nat.le_refl _) _)
  have SW : Hid (w.heap.size + 1 ≤ W.heap.size) := by rw [hW]; show _ ≤ _; simp
  have FA1_0 : Hid (At w.heap.size (w.heap.size + 1) (Bx w.heap.size [.string ek, .int .i64 es, .slice ea en ec, .slice eb ebn ebc, .int .i64 e1, .int .i64 e2, .int .i64 e3, .int .i64 e4, .int .i64 e5, .bool f1, .bool f2, .slice et etn etc, .int .i64 ep]) W) := by rw [hW]; exact Bx.newAt rfl [.string ek, .int .i64 es, .slice ea en ec, .slice eb ebn ebc, .int .i64 e1, .int .i64 e2, .int .i64 e3, .int .i64 e4, .int .i64 e5, .bool f1, .bool f2, .slice et etn etc, .int .i64 ep] _
  clear hW
  go_enter Tryz.func6, Tryz.ntmps6
  by_cases hs_src : (1048576 : Int) < src.size
  · clear HZ1 HT1 HQ1 HM1 HF HG HEQ HMR HHR
    go_wp2_with fail
    try rw [← HW.out]
    go_ret
    exact ⟨rfl, HW.out ▸ KW.out⟩
  have hu_src : src.size ≤ 1048576 := by omega
  go_wp2_with fail
  rw [← HW.out]
  clear HW
  refine (HZ1.out  _ KW.out).mono ?_
  rintro e0 w1 ⟨rfl, hb⟩
  have K2 : Hid (Below w.heap.size w w1) := KW.out.trans (hb.mono KW.out.size)
  have F3 : Hid (At w.heap.size (w.heap.size + 1) (Bx w.heap.size [.string ek, .int .i64 es, .slice ea en ec, .slice eb ebn ebc, .int .i64 e1, .int .i64 e2, .int .i64 e3, .int .i64 e4, .int .i64 e5, .bool f1, .bool f2, .slice et etn etc, .int .i64 ep]) w1) := FA1_0.out.keep hb
  clear KW FA1_0 hb
  clear HZ1
  by_cases cz1 : z1 < 0
  · clear HT1 HQ1 HM1 HF HG HEQ HMR HHR F3 SW
    go_wp2_with fail
    go_ret
    exact ⟨rfl, K2.out⟩
  replace HT1 := hidL (HT1.out (by omega) (by omega))
  replace HQ1 := hidL (HQ1.out (by omega) (by omega))
  replace HM1 := hidL (HM1.out (by omega) (by omega))
  replace HF := hidL (HF.out (by omega) (by omega))
  replace HG := hidL (HG.out (by omega) (by omega))
  replace HEQ := hidL (HEQ.out (by omega) (by omega))
  replace HMR := hidL (HMR.out (by omega) (by omega))
  replace HHR := hidL (HHR.out (by omega) (by omega))
  have p0 := F3.out.val.1 0 _ rfl
  have p1 := F3.out.val.1 1 _ rfl
  have p2 := F3.out.val.1 2 _ rfl
  have p3 := F3.out.val.1 3 _ rfl
  have p4 := F3.out.val.1 4 _ rfl
  have p5 := F3.out.val.1 5 _ rfl
  have p6 := F3.out.val.1 6 _ rfl
  have p7 := F3.out.val.1 7 _ rfl
  have p8 := F3.out.val.1 8 _ rfl
  have p9 := F3.out.val.1 9 _ rfl
  have p10 := F3.out.val.1 10 _ rfl
  have p11 := F3.out.val.1 11 _ rfl
  have p12 := F3.out.val.1 12 _ rfl
  go_wp2_with fail
  refine (HT1.out _ K2.out).mono ?_
  rintro e0 w4 ⟨⟨Ks, Ds, Js, rfl, ca⟩, hb⟩
  clear p0 p1 p2 p3 p4 p5 p6 p7 p8 p9 p10 p11 p12
  have K5 : Hid (Below w.heap.size w w4) := K2.out.trans (hb.mono K2.out.size)
  have F6 : Hid (At w.heap.size (w.heap.size + 1) (Bx w.heap.size [.string ek, .int .i64 es, .slice ea en ec, .slice eb ebn ebc, .int .i64 e1, .int .i64 e2, .int .i64 e3, .int .i64 e4, .int .i64 e5, .bool f1, .bool f2, .slice et etn etc, .int .i64 ep]) w4) := F3.out.keep hb
  clear K2 F3 hb
  have CA_s : Hid (At w1.heap.size w4.heap.size (CA1 Ks Ds Js) w4) := ca
  clear ca
  go_wp2_with fail
  refine (HF.out _ _ _ _ _ _ K5.out CA_s.out).mono ?_
  rintro e0 w7 ⟨⟨ras, rns, rks, rbs, rms, rls, rfl, cr⟩, hb⟩
  have K8 : Hid (Below w.heap.size w w7) := K5.out.trans (hb.mono K5.out.size)
  have F9 : Hid (At w.heap.size (w.heap.size + 1) (Bx w.heap.size [.string ek, .int .i64 es, .slice ea en ec, .slice eb ebn ebc, .int .i64 e1, .int .i64 e2, .int .i64 e3, .int .i64 e4, .int .i64 e5, .bool f1, .bool f2, .slice et etn etc, .int .i64 ep]) w7) := F6.out.keep hb
  clear K5 F6 hb
  clear CA_s
  obtain ⟨l11, hl11⟩ : ∃ n, w4.heap.size = n := ⟨_, rfl⟩
  obtain ⟨h12, hh12⟩ : ∃ n, w7.heap.size = n := ⟨_, rfl⟩
  have F10 : Hid (At l11 h12 (CR ras rns rks rbs rms rls) w7) := by rw [← hl11, ← hh12]; exact cr
  clear cr hl11 hh12
  obtain ⟨V14, hV14⟩ : ∃ V, V = w7.alloc (.cells #[.int .i64 rc, .int .i64 rs, .slice ras rns rks, .slice rbs rms rls] 31) := ⟨_, rfl⟩
  have HV14 : Hid (V14 = w7.alloc (.cells #[.int .i64 rc, .int .i64 rs, .slice ras rns rks, .slice rbs rms rls] 31)) := hV14
  have ab : Below w7.heap.size w7 V14 := by rw [hV14]; exact (Below.refl _ _).alloc (Nat.le_refl _) _
  have F15 : Hid (At w7.heap.size (w7.heap.size + 1) (Bx w7.heap.size [.int .i64 rc, .int .i64 rs, .slice ras rns rks, .slice rbs rms rls]) V14) := by rw [hV14]; exact Bx.new _ _ _
  have O16 : Hid ((w.heap.size + 1) ≤ w7.heap.size ∧ h12 ≤ w7.heap.size ∧ w.heap.size ≤ w7.heap.size) := ⟨F9.out.le, F10.out.le, K8.out.size⟩
  have K17 : Hid (Below w.heap.size w V14) := K8.out.trans (ab.mono K8.out.size)
  have F18 : Hid (At w.heap.size (w.heap.size + 1) (Bx w.heap.size [.string ek, .int .i64 es, .slice ea en ec, .slice eb ebn ebc, .int .i64 e1, .int .i64 e2, .int .i64 e3, .int .i64 e4, .int .i64 e5, .bool f1, .bool f2, .slice et etn etc, .int .i64 ep]) V14) := F9.out.keep ab
  have F19 : Hid (At l11 h12 (CR ras rns rks rbs rms rls) V14) := F10.out.keep ab
  clear K8 F9 F10
  clear ab hV14
  clear HF
  have p0 := F18.out.val.1 0 _ rfl
  have p1 := F18.out.val.1 1 _ rfl
  have p2 := F18.out.val.1 2 _ rfl
  have p3 := F18.out.val.1 3 _ rfl
  have p4 := F18.out.val.1 4 _ rfl
  have p5 := F18.out.val.1 5 _ rfl
  have p6 := F18.out.val.1 6 _ rfl
  have p7 := F18.out.val.1 7 _ rfl
  have p8 := F18.out.val.1 8 _ rfl
  have p9 := F18.out.val.1 9 _ rfl
  have p10 := F18.out.val.1 10 _ rfl
  have p11 := F18.out.val.1 11 _ rfl
  have p12 := F18.out.val.1 12 _ rfl
  rw [HV14.out] at p0 p1 p2 p3 p4 p5 p6 p7 p8 p9 p10 p11 p12
  go_wp2_with fail
  rw [← HV14.out]
  clear HV14
  generalize w7.heap.size = x20 at *
  refine (HT1.out _ K17.out).mono ?_
  rintro e0 w21 ⟨⟨Kx1, Dx1, Jx1, rfl, ca⟩, hb⟩
  clear p0 p1 p2 p3 p4 p5 p6 p7 p8 p9 p10 p11 p12
  obtain ⟨l22, hl22⟩ : ∃ n, V14.heap.size = n := ⟨_, rfl⟩
  obtain ⟨h23, hh23⟩ : ∃ n, w21.heap.size = n := ⟨_, rfl⟩
  have O24 : Hid ((w.heap.size + 1) ≤ l22 ∧ h12 ≤ l22 ∧ (x20 + 1) ≤ l22 ∧ w.heap.size ≤ l22 ∧ l22 ≤ h23) := ⟨(by rw [← hl22]; exact F18.out.le), (by rw [← hl22]; exact F19.out.le), (by rw [← hl22]; exact F15.out.le), (by rw [← hl22]; exact K17.out.size), (by rw [← hl22, ← hh23]; exact hb.size)⟩
  have F25 : Hid (At l22 h23 (CA1 Kx1 Dx1 Jx1) w21) := by rw [← hl22, ← hh23]; exact ca
  clear ca hl22 hh23
  have K26 : Hid (Below w.heap.size w w21) := K17.out.trans (hb.mono K17.out.size)
  have F27 : Hid (At w.heap.size (w.heap.size + 1) (Bx w.heap.size [.string ek, .int .i64 es, .slice ea en ec, .slice eb ebn ebc, .int .i64 e1, .int .i64 e2, .int .i64 e3, .int .i64 e4, .int .i64 e5, .bool f1, .bool f2, .slice et etn etc, .int .i64 ep]) w21) := F18.out.keep hb
  have F28 : Hid (At l11 h12 (CR ras rns rks rbs rms rls) w21) := F19.out.keep hb
  have F29 : Hid (At x20 (x20 + 1) (Bx x20 [.int .i64 rc, .int .i64 rs, .slice ras rns rks, .slice rbs rms rls]) w21) := F15.out.keep hb
  clear K17 F18 F19 F15 hb
  obtain ⟨V30, hV30⟩ : ∃ V, V = w21.alloc (.cells #[.string ek, .int .i64 es, .slice (some ⟨Kx1, 0, none⟩) en en, .slice (some ⟨Dx1, 0, none⟩) ebn ebn, .int .i64 e1, .int .i64 e2, .int .i64 e3, .int .i64 e4, .int .i64 e5, .bool f1, .bool f2, .slice (some ⟨Jx1, 0, none⟩) etn etn, .int .i64 ep] 56) := ⟨_, rfl⟩
  have HV30 : Hid (V30 = w21.alloc (.cells #[.string ek, .int .i64 es, .slice (some ⟨Kx1, 0, none⟩) en en, .slice (some ⟨Dx1, 0, none⟩) ebn ebn, .int .i64 e1, .int .i64 e2, .int .i64 e3, .int .i64 e4, .int .i64 e5, .bool f1, .bool f2, .slice (some ⟨Jx1, 0, none⟩) etn etn, .int .i64 ep] 56)) := hV30
  have ab : Below w21.heap.size w21 V30 := by rw [hV30]; exact (Below.refl _ _).alloc (Nat.le_refl _) _
  have F31 : Hid (At w21.heap.size (w21.heap.size + 1) (Bx w21.heap.size [.string ek, .int .i64 es, .slice (some ⟨Kx1, 0, none⟩) en en, .slice (some ⟨Dx1, 0, none⟩) ebn ebn, .int .i64 e1, .int .i64 e2, .int .i64 e3, .int .i64 e4, .int .i64 e5, .bool f1, .bool f2, .slice (some ⟨Jx1, 0, none⟩) etn etn, .int .i64 ep]) V30) := by rw [hV30]; exact Bx.new _ _ _
  have O32 : Hid ((w.heap.size + 1) ≤ w21.heap.size ∧ h12 ≤ w21.heap.size ∧ (x20 + 1) ≤ w21.heap.size ∧ h23 ≤ w21.heap.size ∧ w.heap.size ≤ w21.heap.size) := ⟨F27.out.le, F28.out.le, F29.out.le, F25.out.le, K26.out.size⟩
  have K33 : Hid (Below w.heap.size w V30) := K26.out.trans (ab.mono K26.out.size)
  have F34 : Hid (At w.heap.size (w.heap.size + 1) (Bx w.heap.size [.string ek, .int .i64 es, .slice ea en ec, .slice eb ebn ebc, .int .i64 e1, .int .i64 e2, .int .i64 e3, .int .i64 e4, .int .i64 e5, .bool f1, .bool f2, .slice et etn etc, .int .i64 ep]) V30) := F27.out.keep ab
  have F35 : Hid (At l11 h12 (CR ras rns rks rbs rms rls) V30) := F28.out.keep ab
  have F36 : Hid (At x20 (x20 + 1) (Bx x20 [.int .i64 rc, .int .i64 rs, .slice ras rns rks, .slice rbs rms rls]) V30) := F29.out.keep ab
  have F37 : Hid (At l22 h23 (CA1 Kx1 Dx1 Jx1) V30) := F25.out.keep ab
  clear K26 F27 F28 F29 F25
  clear ab hV30
  have p1_0 := F31.out.val.1 0 _ rfl
  have p1_1 := F31.out.val.1 1 _ rfl
  have p1_2 := F31.out.val.1 2 _ rfl
  have p1_3 := F31.out.val.1 3 _ rfl
  have p1_4 := F31.out.val.1 4 _ rfl
  have p1_5 := F31.out.val.1 5 _ rfl
  have p1_6 := F31.out.val.1 6 _ rfl
  have p1_7 := F31.out.val.1 7 _ rfl
  have p1_8 := F31.out.val.1 8 _ rfl
  have p1_9 := F31.out.val.1 9 _ rfl
  have p1_10 := F31.out.val.1 10 _ rfl
  have p1_11 := F31.out.val.1 11 _ rfl
  have p1_12 := F31.out.val.1 12 _ rfl
  rw [HV30.out] at p1_0 p1_1 p1_2 p1_3 p1_4 p1_5 p1_6 p1_7 p1_8 p1_9 p1_10 p1_11 p1_12
  go_wp2_with fail
  rw [← HV30.out]
  clear HV30
  generalize w21.heap.size = x38 at *
  refine (HG.out _ _ _ _ _ _ K33.out F37.out).mono ?_
  rintro e0 w39 ⟨⟨rag, rng, rkg, rbg, rmg, rlg, rfl, cr⟩, hb⟩
  clear p1_0 p1_1 p1_2 p1_3 p1_4 p1_5 p1_6 p1_7 p1_8 p1_9 p1_10 p1_11 p1_12
  obtain ⟨l40, hl40⟩ : ∃ n, V30.heap.size = n := ⟨_, rfl⟩
  obtain ⟨h41, hh41⟩ : ∃ n, w39.heap.size = n := ⟨_, rfl⟩
  have O42 : Hid ((w.heap.size + 1) ≤ l40 ∧ h12 ≤ l40 ∧ (x20 + 1) ≤ l40 ∧ h23 ≤ l40 ∧ (x38 + 1) ≤ l40 ∧ w.heap.size ≤ l40 ∧ l40 ≤ h41) := ⟨(by rw [← hl40]; exact F34.out.le), (by rw [← hl40]; exact F35.out.le), (by rw [← hl40]; exact F36.out.le), (by rw [← hl40]; exact F37.out.le), (by rw [← hl40]; exact F31.out.le), (by rw [← hl40]; exact K33.out.size), (by rw [← hl40, ← hh41]; exact hb.size)⟩
  have F43 : Hid (At l40 h41 (CR rag rng rkg rbg rmg rlg) w39) := by rw [← hl40, ← hh41]; exact cr
  clear cr hl40 hh41
  have K44 : Hid (Below w.heap.size w w39) := K33.out.trans (hb.mono K33.out.size)
  have F45 : Hid (At w.heap.size (w.heap.size + 1) (Bx w.heap.size [.string ek, .int .i64 es, .slice ea en ec, .slice eb ebn ebc, .int .i64 e1, .int .i64 e2, .int .i64 e3, .int .i64 e4, .int .i64 e5, .bool f1, .bool f2, .slice et etn etc, .int .i64 ep]) w39) := F34.out.keep hb
  have F46 : Hid (At l11 h12 (CR ras rns rks rbs rms rls) w39) := F35.out.keep hb
  have F47 : Hid (At x20 (x20 + 1) (Bx x20 [.int .i64 rc, .int .i64 rs, .slice ras rns rks, .slice rbs rms rls]) w39) := F36.out.keep hb
  have F48 : Hid (At l22 h23 (CA1 Kx1 Dx1 Jx1) w39) := F37.out.keep hb
  have F49 : Hid (At x38 (x38 + 1) (Bx x38 [.string ek, .int .i64 es, .slice (some ⟨Kx1, 0, none⟩) en en, .slice (some ⟨Dx1, 0, none⟩) ebn ebn, .int .i64 e1, .int .i64 e2, .int .i64 e3, .int .i64 e4, .int .i64 e5, .bool f1, .bool f2, .slice (some ⟨Jx1, 0, none⟩) etn etn, .int .i64 ep]) w39) := F31.out.keep hb
  clear K33 F34 F35 F36 F37 F31 hb
  obtain ⟨V50, hV50⟩ : ∃ V, V = w39.alloc (.cells #[.int .i64 rc, .int .i64 rs, .slice rag rng rkg, .slice rbg rmg rlg] 31) := ⟨_, rfl⟩
  have HV50 : Hid (V50 = w39.alloc (.cells #[.int .i64 rc, .int .i64 rs, .slice rag rng rkg, .slice rbg rmg rlg] 31)) := hV50
  have ab : Below w39.heap.size w39 V50 := by rw [hV50]; exact (Below.refl _ _).alloc (Nat.le_refl _) _
  have F51 : Hid (At w39.heap.size (w39.heap.size + 1) (Bx w39.heap.size [.int .i64 rc, .int .i64 rs, .slice rag rng rkg, .slice rbg rmg rlg]) V50) := by rw [hV50]; exact Bx.new _ _ _
  have O52 : Hid ((w.heap.size + 1) ≤ w39.heap.size ∧ h12 ≤ w39.heap.size ∧ (x20 + 1) ≤ w39.heap.size ∧ h23 ≤ w39.heap.size ∧ (x38 + 1) ≤ w39.heap.size ∧ h41 ≤ w39.heap.size ∧ w.heap.size ≤ w39.heap.size) := ⟨F45.out.le, F46.out.le, F47.out.le, F48.out.le, F49.out.le, F43.out.le, K44.out.size⟩
  have K53 : Hid (Below w.heap.size w V50) := K44.out.trans (ab.mono K44.out.size)
  have F54 : Hid (At w.heap.size (w.heap.size + 1) (Bx w.heap.size [.string ek, .int .i64 es, .slice ea en ec, .slice eb ebn ebc, .int .i64 e1, .int .i64 e2, .int .i64 e3, .int .i64 e4, .int .i64 e5, .bool f1, .bool f2, .slice et etn etc, .int .i64 ep]) V50) := F45.out.keep ab
  have F55 : Hid (At l11 h12 (CR ras rns rks rbs rms rls) V50) := F46.out.keep ab
  have F56 : Hid (At x20 (x20 + 1) (Bx x20 [.int .i64 rc, .int .i64 rs, .slice ras rns rks, .slice rbs rms rls]) V50) := F47.out.keep ab
  have F57 : Hid (At l22 h23 (CA1 Kx1 Dx1 Jx1) V50) := F48.out.keep ab
  have F58 : Hid (At x38 (x38 + 1) (Bx x38 [.string ek, .int .i64 es, .slice (some ⟨Kx1, 0, none⟩) en en, .slice (some ⟨Dx1, 0, none⟩) ebn ebn, .int .i64 e1, .int .i64 e2, .int .i64 e3, .int .i64 e4, .int .i64 e5, .bool f1, .bool f2, .slice (some ⟨Jx1, 0, none⟩) etn etn, .int .i64 ep]) V50) := F49.out.keep ab
  have F59 : Hid (At l40 h41 (CR rag rng rkg rbg rmg rlg) V50) := F43.out.keep ab
  clear K44 F45 F46 F47 F48 F49 F43
  clear ab hV50
  have p0 := F51.out.val.1 0 _ rfl
  have p1 := F51.out.val.1 1 _ rfl
  have p2 := F51.out.val.1 2 _ rfl
  have p3 := F51.out.val.1 3 _ rfl
  have s0 := F56.out.val.1 0 _ rfl
  have s1 := F56.out.val.1 1 _ rfl
  have s2 := F56.out.val.1 2 _ rfl
  have s3 := F56.out.val.1 3 _ rfl
  rw [HV50.out] at p0 p1 p2 p3 s0 s1 s2 s3
  go_wp2_with fail
  rw [← HV50.out]
  clear HV50
  generalize w39.heap.size = x60 at *
  refine (HEQ.out _ _ _ _ _ _ _ _ _ _ _ _ _ _ _ _ _ F59.out F55.out).mono ?_
  rintro e0 w61 ⟨rfl, hb⟩
  clear p0 p1 p2 p3 s0 s1 s2 s3
  have K62 : Hid (Below w.heap.size w w61) := K53.out.trans (hb.mono K53.out.size)
  have F63 : Hid (At w.heap.size (w.heap.size + 1) (Bx w.heap.size [.string ek, .int .i64 es, .slice ea en ec, .slice eb ebn ebc, .int .i64 e1, .int .i64 e2, .int .i64 e3, .int .i64 e4, .int .i64 e5, .bool f1, .bool f2, .slice et etn etc, .int .i64 ep]) w61) := F54.out.keep hb
  have F64 : Hid (At l11 h12 (CR ras rns rks rbs rms rls) w61) := F55.out.keep hb
  have F65 : Hid (At x20 (x20 + 1) (Bx x20 [.int .i64 rc, .int .i64 rs, .slice ras rns rks, .slice rbs rms rls]) w61) := F56.out.keep hb
  have F66 : Hid (At l22 h23 (CA1 Kx1 Dx1 Jx1) w61) := F57.out.keep hb
  have F67 : Hid (At x38 (x38 + 1) (Bx x38 [.string ek, .int .i64 es, .slice (some ⟨Kx1, 0, none⟩) en en, .slice (some ⟨Dx1, 0, none⟩) ebn ebn, .int .i64 e1, .int .i64 e2, .int .i64 e3, .int .i64 e4, .int .i64 e5, .bool f1, .bool f2, .slice (some ⟨Jx1, 0, none⟩) etn etn, .int .i64 ep]) w61) := F58.out.keep hb
  have F68 : Hid (At l40 h41 (CR rag rng rkg rbg rmg rlg) w61) := F59.out.keep hb
  have F69 : Hid (At x60 (x60 + 1) (Bx x60 [.int .i64 rc, .int .i64 rs, .slice rag rng rkg, .slice rbg rmg rlg]) w61) := F51.out.keep hb
  clear K53 F54 F55 F56 F57 F58 F59 F51 hb
  have HKS : Hid (∀ X, Below w61.heap.size w61 X → X.cell? ⟨w.heap.size, 0, none⟩ = some (.string ek) ∧ X.cell? ⟨w.heap.size, 1, none⟩ = some (.int .i64 es) ∧ X.cell? ⟨w.heap.size, 2, none⟩ = some (.slice ea en ec) ∧ X.cell? ⟨w.heap.size, 3, none⟩ = some (.slice eb ebn ebc) ∧ X.cell? ⟨w.heap.size, 4, none⟩ = some (.int .i64 e1) ∧ X.cell? ⟨w.heap.size, 5, none⟩ = some (.int .i64 e2) ∧ X.cell? ⟨w.heap.size, 6, none⟩ = some (.int .i64 e3) ∧ X.cell? ⟨w.heap.size, 7, none⟩ = some (.int .i64 e4) ∧ X.cell? ⟨w.heap.size, 8, none⟩ = some (.int .i64 e5) ∧ X.cell? ⟨w.heap.size, 9, none⟩ = some (.bool f1) ∧ X.cell? ⟨w.heap.size, 10, none⟩ = some (.bool f2) ∧ X.cell? ⟨w.heap.size, 11, none⟩ = some (.slice et etn etc) ∧ X.cell? ⟨w.heap.size, 12, none⟩ = some (.int .i64 ep) ∧ X.cell? ⟨x38, 0, none⟩ = some (.string ek) ∧ X.cell? ⟨x38, 1, none⟩ = some (.int .i64 es) ∧ X.cell? ⟨x38, 2, none⟩ = some (.slice (some ⟨Kx1, 0, none⟩) en en) ∧ X.cell? ⟨x38, 3, none⟩ = some (.slice (some ⟨Dx1, 0, none⟩) ebn ebn) ∧ X.cell? ⟨x38, 4, none⟩ = some (.int .i64 e1) ∧ X.cell? ⟨x38, 5, none⟩ = some (.int .i64 e2) ∧ X.cell? ⟨x38, 6, none⟩ = some (.int .i64 e3) ∧ X.cell? ⟨x38, 7, none⟩ = some (.int .i64 e4) ∧ X.cell? ⟨x38, 8, none⟩ = some (.int .i64 e5) ∧ X.cell? ⟨x38, 9, none⟩ = some (.bool f1) ∧ X.cell? ⟨x38, 10, none⟩ = some (.bool f2) ∧ X.cell? ⟨x38, 11, none⟩ = some (.slice (some ⟨Jx1, 0, none⟩) etn etn) ∧ X.cell? ⟨x38, 12, none⟩ = some (.int .i64 ep)) := fun X hX => ⟨(F63.out.keep hX).val.1 0 _ rfl, (F63.out.keep hX).val.1 1 _ rfl, (F63.out.keep hX).val.1 2 _ rfl, (F63.out.keep hX).val.1 3 _ rfl, (F63.out.keep hX).val.1 4 _ rfl, (F63.out.keep hX).val.1 5 _ rfl, (F63.out.keep hX).val.1 6 _ rfl, (F63.out.keep hX).val.1 7 _ rfl, (F63.out.keep hX).val.1 8 _ rfl, (F63.out.keep hX).val.1 9 _ rfl, (F63.out.keep hX).val.1 10 _ rfl, (F63.out.keep hX).val.1 11 _ rfl, (F63.out.keep hX).val.1 12 _ rfl, (F67.out.keep hX).val.1 0 _ rfl, (F67.out.keep hX).val.1 1 _ rfl, (F67.out.keep hX).val.1 2 _ rfl, (F67.out.keep hX).val.1 3 _ rfl, (F67.out.keep hX).val.1 4 _ rfl, (F67.out.keep hX).val.1 5 _ rfl, (F67.out.keep hX).val.1 6 _ rfl, (F67.out.keep hX).val.1 7 _ rfl, (F67.out.keep hX).val.1 8 _ rfl, (F67.out.keep hX).val.1 9 _ rfl, (F67.out.keep hX).val.1 10 _ rfl, (F67.out.keep hX).val.1 11 _ rfl, (F67.out.keep hX).val.1 12 _ rfl⟩
  have B0 : Hid (Below w61.heap.size w61 w61.drew) := (Below.refl _ _).drew
  have KB0 : Hid (Below w.heap.size w w61.drew) := K62.out.trans (B0.out.mono K62.out.size)
  go_wp2_with fail
  go_region_held3 (fun X => X.cell? ⟨w.heap.size, 0, none⟩ = some (.string ek) ∧ X.cell? ⟨w.heap.size, 1, none⟩ = some (.int .i64 es) ∧ X.cell? ⟨w.heap.size, 2, none⟩ = some (.slice ea en ec) ∧ X.cell? ⟨w.heap.size, 3, none⟩ = some (.slice eb ebn ebc) ∧ X.cell? ⟨w.heap.size, 4, none⟩ = some (.int .i64 e1) ∧ X.cell? ⟨w.heap.size, 5, none⟩ = some (.int .i64 e2) ∧ X.cell? ⟨w.heap.size, 6, none⟩ = some (.int .i64 e3) ∧ X.cell? ⟨w.heap.size, 7, none⟩ = some (.int .i64 e4) ∧ X.cell? ⟨w.heap.size, 8, none⟩ = some (.int .i64 e5) ∧ X.cell? ⟨w.heap.size, 9, none⟩ = some (.bool f1) ∧ X.cell? ⟨w.heap.size, 10, none⟩ = some (.bool f2) ∧ X.cell? ⟨w.heap.size, 11, none⟩ = some (.slice et etn etc) ∧ X.cell? ⟨w.heap.size, 12, none⟩ = some (.int .i64 ep) ∧ X.cell? ⟨x38, 0, none⟩ = some (.string ek) ∧ X.cell? ⟨x38, 1, none⟩ = some (.int .i64 es) ∧ X.cell? ⟨x38, 2, none⟩ = some (.slice (some ⟨Kx1, 0, none⟩) en en) ∧ X.cell? ⟨x38, 3, none⟩ = some (.slice (some ⟨Dx1, 0, none⟩) ebn ebn) ∧ X.cell? ⟨x38, 4, none⟩ = some (.int .i64 e1) ∧ X.cell? ⟨x38, 5, none⟩ = some (.int .i64 e2) ∧ X.cell? ⟨x38, 6, none⟩ = some (.int .i64 e3) ∧ X.cell? ⟨x38, 7, none⟩ = some (.int .i64 e4) ∧ X.cell? ⟨x38, 8, none⟩ = some (.int .i64 e5) ∧ X.cell? ⟨x38, 9, none⟩ = some (.bool f1) ∧ X.cell? ⟨x38, 10, none⟩ = some (.bool f2) ∧ X.cell? ⟨x38, 11, none⟩ = some (.slice (some ⟨Jx1, 0, none⟩) etn etn) ∧ X.cell? ⟨x38, 12, none⟩ = some (.int .i64 ep))
    (first | ((with_reducible refine HKS.out _ ?_); (with_reducible exact BB.out)) | ((with_reducible refine HKS.out _ ?_); (with_reducible exact BA.out)) | ((with_reducible refine HKS.out _ ?_); (with_reducible exact B0.out)))
    (first
    | (go_at_call 20; (with_reducible refine (HT1.out w61.drew KB0.out).mono ?_); rintro e0 w70 ⟨⟨Kt, Dt, Jt, rfl, ca⟩, hb⟩; have BA : Hid (Below w61.heap.size w61 w70) := B0.out.trans (hb.mono B0.out.size); have MA := hidL ca; clear ca hb)
    | (go_at_call 24; (with_reducible refine (HQ1.out w70 _ _ _ _ _ _ _ _ _ _ (F66.out.keep BA.out) MA.out).mono ?_); rintro e0 w71 ⟨rfl, hb⟩; have BB : Hid (Below w61.heap.size w61 w71) := BA.out.trans (hb.mono BA.out.size); clear hb))
  have K72 : Hid (Below w.heap.size w w71) := K62.out.trans (BB.out.mono K62.out.size)
  have F73 : Hid (At w.heap.size (w.heap.size + 1) (Bx w.heap.size [.string ek, .int .i64 es, .slice ea en ec, .slice eb ebn ebc, .int .i64 e1, .int .i64 e2, .int .i64 e3, .int .i64 e4, .int .i64 e5, .bool f1, .bool f2, .slice et etn etc, .int .i64 ep]) w71) := F63.out.keep BB.out
  have F74 : Hid (At l11 h12 (CR ras rns rks rbs rms rls) w71) := F64.out.keep BB.out
  have F75 : Hid (At x20 (x20 + 1) (Bx x20 [.int .i64 rc, .int .i64 rs, .slice ras rns rks, .slice rbs rms rls]) w71) := F65.out.keep BB.out
  have F76 : Hid (At l22 h23 (CA1 Kx1 Dx1 Jx1) w71) := F66.out.keep BB.out
  have F77 : Hid (At x38 (x38 + 1) (Bx x38 [.string ek, .int .i64 es, .slice (some ⟨Kx1, 0, none⟩) en en, .slice (some ⟨Dx1, 0, none⟩) ebn ebn, .int .i64 e1, .int .i64 e2, .int .i64 e3, .int .i64 e4, .int .i64 e5, .bool f1, .bool f2, .slice (some ⟨Jx1, 0, none⟩) etn etn, .int .i64 ep]) w71) := F67.out.keep BB.out
  have F78 : Hid (At l40 h41 (CR rag rng rkg rbg rmg rlg) w71) := F68.out.keep BB.out
  have F79 : Hid (At x60 (x60 + 1) (Bx x60 [.int .i64 rc, .int .i64 rs, .slice rag rng rkg, .slice rbg rmg rlg]) w71) := F69.out.keep BB.out
  clear K62 F63 F64 F65 F66 F67 F68 F69
  clear HKS B0 BA BB MA KB0
  clear HQ1
  have p0 := F77.out.val.1 0 _ rfl
  have p1 := F77.out.val.1 1 _ rfl
  have p2 := F77.out.val.1 2 _ rfl
  have p3 := F77.out.val.1 3 _ rfl
  have p4 := F77.out.val.1 4 _ rfl
  have p5 := F77.out.val.1 5 _ rfl
  have p6 := F77.out.val.1 6 _ rfl
  have p7 := F77.out.val.1 7 _ rfl
  have p8 := F77.out.val.1 8 _ rfl
  have p9 := F77.out.val.1 9 _ rfl
  have p10 := F77.out.val.1 10 _ rfl
  have p11 := F77.out.val.1 11 _ rfl
  have p12 := F77.out.val.1 12 _ rfl
  go_wp2_with fail
  refine (HM1.out _ _ _ _ _ _ F76.out (by have := SW.out; have := O16.out; have := O24.out; have := O32.out; have := O42.out; have := O52.out; omega)).mono ?_
  rintro e0 w80 ⟨rfl, hg, hb⟩
  clear p0 p1 p2 p3 p4 p5 p6 p7 p8 p9 p10 p11 p12
  clear F76
  have K81 : Hid (Below w.heap.size w w80) := K72.out.trans hb
  have F82 : Hid (At w.heap.size (w.heap.size + 1) (Bx w.heap.size [.string ek, .int .i64 es, .slice ea en ec, .slice eb ebn ebc, .int .i64 e1, .int .i64 e2, .int .i64 e3, .int .i64 e4, .int .i64 e5, .bool f1, .bool f2, .slice et etn etc, .int .i64 ep]) w80) := F73.out.wi hg (by have := SW.out; have := O16.out; have := O24.out; have := O32.out; have := O42.out; have := O52.out; omega)
  have F83 : Hid (At l11 h12 (CR ras rns rks rbs rms rls) w80) := F74.out.wi hg (by have := SW.out; have := O16.out; have := O24.out; have := O32.out; have := O42.out; have := O52.out; omega)
  have F84 : Hid (At x20 (x20 + 1) (Bx x20 [.int .i64 rc, .int .i64 rs, .slice ras rns rks, .slice rbs rms rls]) w80) := F75.out.wi hg (by have := SW.out; have := O16.out; have := O24.out; have := O32.out; have := O42.out; have := O52.out; omega)
  have F85 : Hid (At x38 (x38 + 1) (Bx x38 [.string ek, .int .i64 es, .slice (some ⟨Kx1, 0, none⟩) en en, .slice (some ⟨Dx1, 0, none⟩) ebn ebn, .int .i64 e1, .int .i64 e2, .int .i64 e3, .int .i64 e4, .int .i64 e5, .bool f1, .bool f2, .slice (some ⟨Jx1, 0, none⟩) etn etn, .int .i64 ep]) w80) := F77.out.wi hg (by have := SW.out; have := O16.out; have := O24.out; have := O32.out; have := O42.out; have := O52.out; omega)
  have F86 : Hid (At l40 h41 (CR rag rng rkg rbg rmg rlg) w80) := F78.out.wi hg (by have := SW.out; have := O16.out; have := O24.out; have := O32.out; have := O42.out; have := O52.out; omega)
  have F87 : Hid (At x60 (x60 + 1) (Bx x60 [.int .i64 rc, .int .i64 rs, .slice rag rng rkg, .slice rbg rmg rlg]) w80) := F79.out.wi hg (by have := SW.out; have := O16.out; have := O24.out; have := O32.out; have := O42.out; have := O52.out; omega)
  clear K72 F73 F74 F75 F77 F78 F79 hg hb
  clear HM1
  have hkd : decide (k1 < 0) = false := by simpa using hk0
  have p0 := F87.out.val.1 0 _ rfl
  have p1 := F87.out.val.1 1 _ rfl
  have p2 := F87.out.val.1 2 _ rfl
  have p3 := F87.out.val.1 3 _ rfl
  have s0 := F84.out.val.1 0 _ rfl
  have s1 := F84.out.val.1 1 _ rfl
  have s2 := F84.out.val.1 2 _ rfl
  have s3 := F84.out.val.1 3 _ rfl
  go_wp2_with fail
  refine (HEQ.out _ _ _ _ _ _ _ _ _ _ _ _ _ _ _ _ _ F86.out F83.out).mono ?_
  rintro e0 w88 ⟨rfl, hb⟩
  clear p0 p1 p2 p3 s0 s1 s2 s3
  have K89 : Hid (Below w.heap.size w w88) := K81.out.trans (hb.mono K81.out.size)
  have F90 : Hid (At w.heap.size (w.heap.size + 1) (Bx w.heap.size [.string ek, .int .i64 es, .slice ea en ec, .slice eb ebn ebc, .int .i64 e1, .int .i64 e2, .int .i64 e3, .int .i64 e4, .int .i64 e5, .bool f1, .bool f2, .slice et etn etc, .int .i64 ep]) w88) := F82.out.keep hb
  have F91 : Hid (At l11 h12 (CR ras rns rks rbs rms rls) w88) := F83.out.keep hb
  have F92 : Hid (At x20 (x20 + 1) (Bx x20 [.int .i64 rc, .int .i64 rs, .slice ras rns rks, .slice rbs rms rls]) w88) := F84.out.keep hb
  have F93 : Hid (At x38 (x38 + 1) (Bx x38 [.string ek, .int .i64 es, .slice (some ⟨Kx1, 0, none⟩) en en, .slice (some ⟨Dx1, 0, none⟩) ebn ebn, .int .i64 e1, .int .i64 e2, .int .i64 e3, .int .i64 e4, .int .i64 e5, .bool f1, .bool f2, .slice (some ⟨Jx1, 0, none⟩) etn etn, .int .i64 ep]) w88) := F85.out.keep hb
  have F94 : Hid (At l40 h41 (CR rag rng rkg rbg rmg rlg) w88) := F86.out.keep hb
  have F95 : Hid (At x60 (x60 + 1) (Bx x60 [.int .i64 rc, .int .i64 rs, .slice rag rng rkg, .slice rbg rmg rlg]) w88) := F87.out.keep hb
  clear K81 F82 F83 F84 F85 F86 F87 hb
  clear hkd
  clear F93
  have p0 := F95.out.val.1 0 _ rfl
  have p1 := F95.out.val.1 1 _ rfl
  have p2 := F95.out.val.1 2 _ rfl
  have p3 := F95.out.val.1 3 _ rfl
  go_wp2_with fail
  refine (HMR.out _ _ _ _ _ _ _ _ _ K89.out F94.out (by have := SW.out; have := O16.out; have := O24.out; have := O32.out; have := O42.out; have := O52.out; omega)).mono ?_
  rintro e0 w96 ⟨rfl, mr, hg, hb⟩
  clear p0 p1 p2 p3 F94
  have K97 : Hid (Below w.heap.size w w96) := K89.out.trans hb
  have F98 : Hid (At w.heap.size (w.heap.size + 1) (Bx w.heap.size [.string ek, .int .i64 es, .slice ea en ec, .slice eb ebn ebc, .int .i64 e1, .int .i64 e2, .int .i64 e3, .int .i64 e4, .int .i64 e5, .bool f1, .bool f2, .slice et etn etc, .int .i64 ep]) w96) := F90.out.wi hg (by have := SW.out; have := O16.out; have := O24.out; have := O32.out; have := O42.out; have := O52.out; omega)
  have F99 : Hid (At l11 h12 (CR ras rns rks rbs rms rls) w96) := F91.out.wi hg (by have := SW.out; have := O16.out; have := O24.out; have := O32.out; have := O42.out; have := O52.out; omega)
  have F100 : Hid (At x20 (x20 + 1) (Bx x20 [.int .i64 rc, .int .i64 rs, .slice ras rns rks, .slice rbs rms rls]) w96) := F92.out.wi hg (by have := SW.out; have := O16.out; have := O24.out; have := O32.out; have := O42.out; have := O52.out; omega)
  have F101 : Hid (At x60 (x60 + 1) (Bx x60 [.int .i64 rc, .int .i64 rs, .slice rag rng rkg, .slice rbg rmg rlg]) w96) := F95.out.wi hg (by have := SW.out; have := O16.out; have := O24.out; have := O32.out; have := O42.out; have := O52.out; omega)
  clear K89 F90 F91 F92 F95 hg hb
  have F102 : Hid (At l40 h41 (MR rag rng rkg rbg rmg rlg) w96) := mr
  clear mr HMR
  have p0 := F101.out.val.1 0 _ rfl
  have p1 := F101.out.val.1 1 _ rfl
  have p2 := F101.out.val.1 2 _ rfl
  have p3 := F101.out.val.1 3 _ rfl
  go_wp2_with fail
  refine (HHR.out _ _ _ _ _ _ _ _ _ F102.out).mono ?_
  rintro e0 w103 ⟨rfl, hb⟩
  clear p0 p1 p2 p3
  have K104 : Hid (Below w.heap.size w w103) := K97.out.trans (hb.mono K97.out.size)
  have F105 : Hid (At w.heap.size (w.heap.size + 1) (Bx w.heap.size [.string ek, .int .i64 es, .slice ea en ec, .slice eb ebn ebc, .int .i64 e1, .int .i64 e2, .int .i64 e3, .int .i64 e4, .int .i64 e5, .bool f1, .bool f2, .slice et etn etc, .int .i64 ep]) w103) := F98.out.keep hb
  have F106 : Hid (At l11 h12 (CR ras rns rks rbs rms rls) w103) := F99.out.keep hb
  have F107 : Hid (At x20 (x20 + 1) (Bx x20 [.int .i64 rc, .int .i64 rs, .slice ras rns rks, .slice rbs rms rls]) w103) := F100.out.keep hb
  have F108 : Hid (At x60 (x60 + 1) (Bx x60 [.int .i64 rc, .int .i64 rs, .slice rag rng rkg, .slice rbg rmg rlg]) w103) := F101.out.keep hb
  have F109 : Hid (At l40 h41 (MR rag rng rkg rbg rmg rlg) w103) := F102.out.keep hb
  clear K97 F98 F99 F100 F101 F102 hb
  clear SW O16 O24 O32 O42 O52
  have p0 := F105.out.val.1 0 _ rfl
  have p1 := F105.out.val.1 1 _ rfl
  have p2 := F105.out.val.1 2 _ rfl
  have p3 := F105.out.val.1 3 _ rfl
  have p4 := F105.out.val.1 4 _ rfl
  have p5 := F105.out.val.1 5 _ rfl
  have p6 := F105.out.val.1 6 _ rfl
  have p7 := F105.out.val.1 7 _ rfl
  have p8 := F105.out.val.1 8 _ rfl
  have p9 := F105.out.val.1 9 _ rfl
  have p10 := F105.out.val.1 10 _ rfl
  have p11 := F105.out.val.1 11 _ rfl
  have p12 := F105.out.val.1 12 _ rfl
  go_wp2_with fail
  refine (HT1.out _ K104.out).mono ?_
  rintro e0 w110 ⟨⟨Kh, Dh, Jh, rfl, ca⟩, hb⟩
  clear p0 p1 p2 p3 p4 p5 p6 p7 p8 p9 p10 p11 p12
  have K111 : Hid (Below w.heap.size w w110) := K104.out.trans (hb.mono K104.out.size)
  have F112 : Hid (At w.heap.size (w.heap.size + 1) (Bx w.heap.size [.string ek, .int .i64 es, .slice ea en ec, .slice eb ebn ebc, .int .i64 e1, .int .i64 e2, .int .i64 e3, .int .i64 e4, .int .i64 e5, .bool f1, .bool f2, .slice et etn etc, .int .i64 ep]) w110) := F105.out.keep hb
  have F113 : Hid (At l11 h12 (CR ras rns rks rbs rms rls) w110) := F106.out.keep hb
  have F114 : Hid (At x20 (x20 + 1) (Bx x20 [.int .i64 rc, .int .i64 rs, .slice ras rns rks, .slice rbs rms rls]) w110) := F107.out.keep hb
  have F115 : Hid (At x60 (x60 + 1) (Bx x60 [.int .i64 rc, .int .i64 rs, .slice rag rng rkg, .slice rbg rmg rlg]) w110) := F108.out.keep hb
  have F116 : Hid (At l40 h41 (MR rag rng rkg rbg rmg rlg) w110) := F109.out.keep hb
  clear K104 F105 F106 F107 F108 F109 hb
  have CA_h : Hid (At w103.heap.size w110.heap.size (CA1 Kh Dh Jh) w110) := ca
  clear ca
  go_wp2_with fail
  refine (HG.out _ _ _ _ _ _ K111.out CA_h.out).mono ?_
  rintro e0 w117 ⟨⟨rah, rnh, rkh, rbh, rmh, rlh, rfl, cr⟩, hb⟩
  have K118 : Hid (Below w.heap.size w w117) := K111.out.trans (hb.mono K111.out.size)
  have F119 : Hid (At w.heap.size (w.heap.size + 1) (Bx w.heap.size [.string ek, .int .i64 es, .slice ea en ec, .slice eb ebn ebc, .int .i64 e1, .int .i64 e2, .int .i64 e3, .int .i64 e4, .int .i64 e5, .bool f1, .bool f2, .slice et etn etc, .int .i64 ep]) w117) := F112.out.keep hb
  have F120 : Hid (At l11 h12 (CR ras rns rks rbs rms rls) w117) := F113.out.keep hb
  have F121 : Hid (At x20 (x20 + 1) (Bx x20 [.int .i64 rc, .int .i64 rs, .slice ras rns rks, .slice rbs rms rls]) w117) := F114.out.keep hb
  have F122 : Hid (At x60 (x60 + 1) (Bx x60 [.int .i64 rc, .int .i64 rs, .slice rag rng rkg, .slice rbg rmg rlg]) w117) := F115.out.keep hb
  have F123 : Hid (At l40 h41 (MR rag rng rkg rbg rmg rlg) w117) := F116.out.keep hb
  clear K111 F112 F113 F114 F115 F116 hb
  clear CA_h
  obtain ⟨l125, hl125⟩ : ∃ n, w110.heap.size = n := ⟨_, rfl⟩
  obtain ⟨h126, hh126⟩ : ∃ n, w117.heap.size = n := ⟨_, rfl⟩
  have F124 : Hid (At l125 h126 (CR rah rnh rkh rbh rmh rlh) w117) := by rw [← hl125, ← hh126]; exact cr
  clear cr hl125 hh126
  obtain ⟨V128, hV128⟩ : ∃ V, V = w117.alloc (.cells #[.int .i64 rc, .int .i64 rs, .slice rah rnh rkh, .slice rbh rmh rlh] 31) := ⟨_, rfl⟩
  have HV128 : Hid (V128 = w117.alloc (.cells #[.int .i64 rc, .int .i64 rs, .slice rah rnh rkh, .slice rbh rmh rlh] 31)) := hV128
  have ab : Below w117.heap.size w117 V128 := by rw [hV128]; exact (Below.refl _ _).alloc (Nat.le_refl _) _
  have F129 : Hid (At w117.heap.size (w117.heap.size + 1) (Bx w117.heap.size [.int .i64 rc, .int .i64 rs, .slice rah rnh rkh, .slice rbh rmh rlh]) V128) := by rw [hV128]; exact Bx.new _ _ _
  have O130 : Hid ((w.heap.size + 1) ≤ w117.heap.size ∧ h12 ≤ w117.heap.size ∧ (x20 + 1) ≤ w117.heap.size ∧ (x60 + 1) ≤ w117.heap.size ∧ h41 ≤ w117.heap.size ∧ h126 ≤ w117.heap.size ∧ w.heap.size ≤ w117.heap.size) := ⟨F119.out.le, F120.out.le, F121.out.le, F122.out.le, F123.out.le, F124.out.le, K118.out.size⟩
  have K131 : Hid (Below w.heap.size w V128) := K118.out.trans (ab.mono K118.out.size)
  have F132 : Hid (At w.heap.size (w.heap.size + 1) (Bx w.heap.size [.string ek, .int .i64 es, .slice ea en ec, .slice eb ebn ebc, .int .i64 e1, .int .i64 e2, .int .i64 e3, .int .i64 e4, .int .i64 e5, .bool f1, .bool f2, .slice et etn etc, .int .i64 ep]) V128) := F119.out.keep ab
  have F133 : Hid (At l11 h12 (CR ras rns rks rbs rms rls) V128) := F120.out.keep ab
  have F134 : Hid (At x20 (x20 + 1) (Bx x20 [.int .i64 rc, .int .i64 rs, .slice ras rns rks, .slice rbs rms rls]) V128) := F121.out.keep ab
  have F135 : Hid (At x60 (x60 + 1) (Bx x60 [.int .i64 rc, .int .i64 rs, .slice rag rng rkg, .slice rbg rmg rlg]) V128) := F122.out.keep ab
  have F136 : Hid (At l40 h41 (MR rag rng rkg rbg rmg rlg) V128) := F123.out.keep ab
  have F137 : Hid (At l125 h126 (CR rah rnh rkh rbh rmh rlh) V128) := F124.out.keep ab
  clear K118 F119 F120 F121 F122 F123 F124
  clear ab hV128
  clear HG
  have p0 := F129.out.val.1 0 _ rfl
  have p1 := F129.out.val.1 1 _ rfl
  have p2 := F129.out.val.1 2 _ rfl
  have p3 := F129.out.val.1 3 _ rfl
  have s0 := F134.out.val.1 0 _ rfl
  have s1 := F134.out.val.1 1 _ rfl
  have s2 := F134.out.val.1 2 _ rfl
  have s3 := F134.out.val.1 3 _ rfl
  rw [HV128.out] at p0 p1 p2 p3 s0 s1 s2 s3
  go_wp2_with fail
  rw [← HV128.out]
  clear HV128
  generalize w117.heap.size = x138 at *
  refine (HEQ.out _ _ _ _ _ _ _ _ _ _ _ _ _ _ _ _ _ F137.out F133.out).mono ?_
  rintro e0 w139 ⟨rfl, hb⟩
  clear p0 p1 p2 p3 s0 s1 s2 s3
  have K140 : Hid (Below w.heap.size w w139) := K131.out.trans (hb.mono K131.out.size)
  have F141 : Hid (At w.heap.size (w.heap.size + 1) (Bx w.heap.size [.string ek, .int .i64 es, .slice ea en ec, .slice eb ebn ebc, .int .i64 e1, .int .i64 e2, .int .i64 e3, .int .i64 e4, .int .i64 e5, .bool f1, .bool f2, .slice et etn etc, .int .i64 ep]) w139) := F132.out.keep hb
  have F142 : Hid (At l11 h12 (CR ras rns rks rbs rms rls) w139) := F133.out.keep hb
  have F143 : Hid (At x20 (x20 + 1) (Bx x20 [.int .i64 rc, .int .i64 rs, .slice ras rns rks, .slice rbs rms rls]) w139) := F134.out.keep hb
  have F144 : Hid (At x60 (x60 + 1) (Bx x60 [.int .i64 rc, .int .i64 rs, .slice rag rng rkg, .slice rbg rmg rlg]) w139) := F135.out.keep hb
  have F145 : Hid (At l40 h41 (MR rag rng rkg rbg rmg rlg) w139) := F136.out.keep hb
  have F146 : Hid (At l125 h126 (CR rah rnh rkh rbh rmh rlh) w139) := F137.out.keep hb
  have F147 : Hid (At x138 (x138 + 1) (Bx x138 [.int .i64 rc, .int .i64 rs, .slice rah rnh rkh, .slice rbh rmh rlh]) w139) := F129.out.keep hb
  clear K131 F132 F133 F134 F135 F136 F137 F129 hb
  have p0 := F144.out.val.1 0 _ rfl
  have p1 := F144.out.val.1 1 _ rfl
  have p2 := F144.out.val.1 2 _ rfl
  have p3 := F144.out.val.1 3 _ rfl
  go_wp2_with fail
  refine (HHR.out _ _ _ _ _ _ _ _ _ F145.out).mono ?_
  rintro e0 w148 ⟨rfl, hb⟩
  clear p0 p1 p2 p3
  have K149 : Hid (Below w.heap.size w w148) := K140.out.trans (hb.mono K140.out.size)
  have F150 : Hid (At w.heap.size (w.heap.size + 1) (Bx w.heap.size [.string ek, .int .i64 es, .slice ea en ec, .slice eb ebn ebc, .int .i64 e1, .int .i64 e2, .int .i64 e3, .int .i64 e4, .int .i64 e5, .bool f1, .bool f2, .slice et etn etc, .int .i64 ep]) w148) := F141.out.keep hb
  have F151 : Hid (At l11 h12 (CR ras rns rks rbs rms rls) w148) := F142.out.keep hb
  have F152 : Hid (At x20 (x20 + 1) (Bx x20 [.int .i64 rc, .int .i64 rs, .slice ras rns rks, .slice rbs rms rls]) w148) := F143.out.keep hb
  have F153 : Hid (At x60 (x60 + 1) (Bx x60 [.int .i64 rc, .int .i64 rs, .slice rag rng rkg, .slice rbg rmg rlg]) w148) := F144.out.keep hb
  have F154 : Hid (At l40 h41 (MR rag rng rkg rbg rmg rlg) w148) := F145.out.keep hb
  have F155 : Hid (At l125 h126 (CR rah rnh rkh rbh rmh rlh) w148) := F146.out.keep hb
  have F156 : Hid (At x138 (x138 + 1) (Bx x138 [.int .i64 rc, .int .i64 rs, .slice rah rnh rkh, .slice rbh rmh rlh]) w148) := F147.out.keep hb
  clear K140 F141 F142 F143 F144 F145 F146 F147 hb
  go_wp2_with fail
  go_ret
  exact ⟨rfl, K149.out⟩
end Go.Proofs.YtopkidfbkhjaeaaGreatDoor
/-
  Entries as arguments of laws.
-/
namespace Go.Proofs.YtopkidfbkhjaeaaGreatDoor
open Go.ChangeShapes Go.WideShapes Go.ChangeAt Go.RowKit Go.Sort
def CEnt (q : Ent) (K D J lo hi : Nat) (X : World) : Prop := QM K q.hs lo hi X ∧ BM D q.bl lo hi X ∧ TM J q.ts lo hi X ∧ K < D ∧ D < J
theorem CEnt.dep (q : Ent) (K D J lo hi : Nat) : Dep lo hi (CEnt q K D J lo hi) := fun X X' h1 h2 hc k =>
  ⟨QM.dep _ _ _ _ X X' h1 h2 hc k.1, BM.dep _ _ _ _ X X' h1 h2 hc k.2.1, TM.dep _ _ _ _ X X' h1 h2 hc k.2.2.1, k.2.2.2⟩
/-- Its lists are not too long. -/
structure EntFew (q : Ent) : Prop where
  k : q.key.size ≤ 1048576
  h : q.hs.length ≤ 1048576
  b : q.bl.length ≤ 1048576
  t : q.ts.length ≤ 1048576
theorem entFew {q : Ent} {left : Int} (hl : left ≤ 1048576) (h : ¬ szE left q.key q.hs q.bl q.ts < 0) : EntFew q ∧ szE left q.key q.hs q.bl q.ts ≤ left := by
  obtain ⟨a, b, c, d, e⟩ := szE_room hl h
  exact ⟨⟨a, b, c, d⟩, e⟩
theorem entZ (w : World) (q : Ent) (r : EntR) (hi : EntIn w q r) (hs : EntSm q) (left : Int) (h0 : 0 ≤ left) (h1 : left ≤ 1048576) (X : World) (hX : Below w.heap.size w X) :
    Calls Tryz.prog 17 #[.agg #[.string q.key, .int .i64 q.st, .slice r.ha q.hs.length r.hc, .slice r.ba q.bl.length r.bc, .int .i64 q.t, .int .i64 q.g, .int .i64 q.l, .int .i64 q.s, .int .i64 q.e, .bool q.b1, .bool q.b2, .slice r.ta q.ts.length r.tc, .int .i64 q.pins], .int .i64 left] X fun e w' => e = .returned (.int .i64 (szE left q.key q.hs q.bl q.ts)) ∧ Below X.heap.size X w' :=
  szEntry_any X q.key q.st r.ha r.hc r.ba r.bc q.t q.g q.l q.s q.e q.b1 q.b2 r.ta r.tc q.pins q.hs q.bl q.ts left h0 h1 hs.key hs.hl hs.hs hs.bl hs.tl hs.ts (hi.h.keep hX) (hi.k.keep hX)
theorem entT (w : World) (q : Ent) (r : EntR) (hi : EntIn w q r) (f : EntFew q) (X : World) (hX : Below w.heap.size w X) :
    Calls Tryz.prog 20 #[.agg #[.string q.key, .int .i64 q.st, .slice r.ha q.hs.length r.hc, .slice r.ba q.bl.length r.bc, .int .i64 q.t, .int .i64 q.g, .int .i64 q.l, .int .i64 q.s, .int .i64 q.e, .bool q.b1, .bool q.b2, .slice r.ta q.ts.length r.tc, .int .i64 q.pins]] X fun e w' => (∃ (K : Nat) (D : Nat) (J : Nat), e = .returned (.agg #[.string q.key, .int .i64 q.st, .slice (some ⟨K, 0, none⟩) q.hs.length q.hs.length, .slice (some ⟨D, 0, none⟩) q.bl.length q.bl.length, .int .i64 q.t, .int .i64 q.g, .int .i64 q.l, .int .i64 q.s, .int .i64 q.e, .bool q.b1, .bool q.b2, .slice (some ⟨J, 0, none⟩) q.ts.length q.ts.length, .int .i64 q.pins]) ∧ At X.heap.size w'.heap.size (CEnt q K D J) w') ∧ Below X.heap.size X w' :=
  (toEntry_any X q.key q.st r.ha r.hc r.ba r.bc q.t q.g q.l q.s q.e q.b1 q.b2 r.ta r.tc q.pins q.hs q.bl q.ts f.h f.b f.t (hi.h.keep hX) (hi.b.keep hX) (hi.k.keep hX)).mono fun _ _ ⟨⟨B2, B3, h1, h2, h3, h4, h5, h6⟩, h7⟩ =>
    ⟨⟨_, B2, B3, h1, Nat.le_refl _, CEnt.dep _ _ _ _ _ _, ⟨h2, by omega, h2.lt⟩, ⟨h3, by omega, h3.lt⟩, ⟨h4, by omega, h4.lt⟩, h5, h6⟩, h7⟩
theorem entQ (q : Ent) (f : EntFew q) (X : World) (la ha lb hb Kx Dx Jx Ky Dy Jy : Nat) (c : At la ha (CEnt q Kx Dx Jx) X) (d : At lb hb (CEnt q Ky Dy Jy) X) :
    Calls Tryz.prog 24 #[.agg #[.string q.key, .int .i64 q.st, .slice (some ⟨Kx, 0, none⟩) q.hs.length q.hs.length, .slice (some ⟨Dx, 0, none⟩) q.bl.length q.bl.length, .int .i64 q.t, .int .i64 q.g, .int .i64 q.l, .int .i64 q.s, .int .i64 q.e, .bool q.b1, .bool q.b2, .slice (some ⟨Jx, 0, none⟩) q.ts.length q.ts.length, .int .i64 q.pins], .agg #[.string q.key, .int .i64 q.st, .slice (some ⟨Ky, 0, none⟩) q.hs.length q.hs.length, .slice (some ⟨Dy, 0, none⟩) q.bl.length q.bl.length, .int .i64 q.t, .int .i64 q.g, .int .i64 q.l, .int .i64 q.s, .int .i64 q.e, .bool q.b1, .bool q.b2, .slice (some ⟨Jy, 0, none⟩) q.ts.length q.ts.length, .int .i64 q.pins]] X fun e w' => e = .returned (.bool true) ∧ Below X.heap.size X w' :=
  eqEntry_same X q.key q.st _ _ _ _ _ _ _ _ q.t q.g q.l q.s q.e q.b1 q.b2 _ _ _ _ q.pins q.hs q.bl q.ts f.h f.b f.t (.inr ⟨Kx, 0, rfl, c.val.1.1.at0⟩) (.inr ⟨Ky, 0, rfl, d.val.1.1.at0⟩) (.inr ⟨Dx, 0, rfl, c.val.2.1.1.at0⟩) (.inr ⟨Dy, 0, rfl, d.val.2.1.1.at0⟩) (.inr ⟨Jx, 0, rfl, c.val.2.2.1.1.at0⟩) (.inr ⟨Jy, 0, rfl, d.val.2.2.1.1.at0⟩)
theorem entM (q : Ent) (f : EntFew q) (k : Nat) (hk0 : 1 ≤ k) (hk : k ≤ 10000000000000) (base : Nat) (X : World) (lo hi K D J : Nat) (c : At lo hi (CEnt q K D J) X) (hb : base ≤ lo) :
    Calls Tryz.prog 26 #[.agg #[.string q.key, .int .i64 q.st, .slice (some ⟨K, 0, none⟩) q.hs.length q.hs.length, .slice (some ⟨D, 0, none⟩) q.bl.length q.bl.length, .int .i64 q.t, .int .i64 q.g, .int .i64 q.l, .int .i64 q.s, .int .i64 q.e, .bool q.b1, .bool q.b2, .slice (some ⟨J, 0, none⟩) q.ts.length q.ts.length, .int .i64 q.pins], .int .i64 (k : Int)] X fun e w' => e = .returned (.int .i64 ((k + 2 * q.hs.length + q.bl.length + q.ts.length : Nat) : Int)) ∧ Wi lo hi X w' ∧ Below base X w' :=
  markEntry_k X q.key q.st q.t q.g q.l q.s q.e q.b1 q.b2 q.pins K q.hs D q.bl J q.ts k lo hi base hk0 hk f.h c.val.1.1.at f.b c.val.2.1.1.at f.t c.val.2.2.1.1.at c.val.2.2.2.1 c.val.2.2.2.2 c.val.1.2.1 c.val.2.2.1.2.2 hb
end Go.Proofs.YtopkidfbkhjaeaaGreatDoor
/-
  What is kept with an answer: ages and phases, on both sides.
-/
namespace Go.Proofs.YtopkidfbkhjaeaaGreatDoor
open Go.ChangeShapes Go.WideShapes Go.ChangeAt Go.RowKit Go.Sort
theorem meta_ir (w w1 : World) (t g l s e : Int) (b1 b2 : Bool) (hb : Below (w.heap.size + 2) ((w.alloc (.cells #[.int .i64 t, .int .i64 g, .int .i64 l, .int .i64 s, .int .i64 e, .bool b1, .bool b2] 54)).alloc (.cells #[.int .i64 0, .int .i64 0] 126)) w1) : Below w.heap.size w w1 ∧ MetaAt w1 w.heap.size t g l s e b1 b2 ∧ IR w1 (w.heap.size + 1) (.int .i64 0) (.int .i64 0) := by
  obtain ⟨u, hu⟩ : ∃ X, X = w.alloc (.cells #[.int .i64 t, .int .i64 g, .int .i64 l, .int .i64 s, .int .i64 e, .bool b1, .bool b2] 54) := ⟨_, rfl⟩
  have a1 : Below w.heap.size w u := by rw [hu]; exact (Below.refl _ _).alloc (Nat.le_refl _) _
  have p1 : MetaAt u w.heap.size t g l s e b1 b2 := by rw [hu]; exact MetaAt.new w t g l s e b1 b2 _
  have ez : u.heap.size = w.heap.size + 1 := by rw [hu]; simp
  rw [← hu] at hb
  have i1 := IR.new u (.int .i64 0) (.int .i64 0) 126
  have a2 : Below u.heap.size u (u.alloc (.cells #[.int .i64 0, .int .i64 0] 126)) := (Below.refl _ _).alloc (Nat.le_refl _) _
  have hb' : Below (u.alloc (.cells #[.int .i64 0, .int .i64 0] 126)).heap.size (u.alloc (.cells #[.int .i64 0, .int .i64 0] 126)) w1 := by
    have : (u.alloc (.cells #[.int .i64 0, .int .i64 0] 126)).heap.size = w.heap.size + 2 := by simp [ez]
    rw [this]; exact hb
  refine ⟨a1.trans ((a2.mono a1.size).trans (hb.mono (by omega))), (p1.keep a2).keep hb', ?_⟩
  rw [← ez]
  exact i1.keep hb'
set_option maxHeartbeats 2000000 in
theorem l7Ask_any (w : World) (B : Nat) (t g l s e : Int) (b1 b2 : Bool) (n : Int) (hp : MetaAt w B t g l s e b1 b2) :
    Calls Tryz.prog 78 #[.pointer (some ⟨B, 0, none⟩), .int .i64 n] w fun r w' => r = .returned (.int .i64 (askM t g l s e n)) ∧ Below w.heap.size w w' := by
  have HS : Hid (∀ w, Calls Tryz.prog 104 #[.agg #[.int .i64 t, .int .i64 g, .int .i64 l, .int .i64 s, .int .i64 e, .bool b1, .bool b2]] w fun r w' => r = .returned (.int .i64 (metaC t g l s e)) ∧ Below w.heap.size w w') := specMeta_any t g l s e b1 b2
  have HT : Hid (∀ x w, Calls Tryz.prog 127 #[.int .i64 x] w fun r w' => r = .returned (.bool (timeB x)) ∧ w' = w) := l1Time_all
  have HP : Hid (MetaAt w B t g l s e b1 b2) := hp
  obtain ⟨c0, c1, c2, c3, c4, c5, c6, _, _⟩ := hp
  cases hm : metaB t g l s e
  · rw [askM_bad (by simp [askB, hm])]
    rw [metaC_bad hm] at HS
    go_enter Tryz.func78, Tryz.ntmps78
    go_wp2_with fail
    refine (HS.out _).mono ?_
    rintro r w1 ⟨rfl, hb1⟩
    have HB : Hid (Below w.heap.size w w1) := hb1
    clear hb1 c0 c1 c2 c3 c4 c5 c6
    go_wp2_with fail
    go_ret
    exact ⟨rfl, HB.out⟩
  rw [metaC_ok hm] at HS
  cases hn : timeB n
  · rw [askM_bad (by simp [askB, hn])]
    go_enter Tryz.func78, Tryz.ntmps78
    go_wp2_with fail
    refine (HS.out _).mono ?_
    rintro r w1 ⟨rfl, hb1⟩
    have HB : Hid (Below w.heap.size w w1) := hb1
    clear hb1 c0 c1 c2 c3 c4 c5 c6
    go_wp2_with fail
    refine (HT.out n _).mono ?_
    rintro r w2 ⟨rfl, rfl⟩
    rw [hn]
    go_wp2_with fail
    go_ret
    exact ⟨rfl, HB.out⟩
  by_cases ht : n < t
  · rw [askM_bad (by simp [askB]; omega)]
    have d : decide (n < t) = true := by simp [ht]
    go_enter Tryz.func78, Tryz.ntmps78
    go_wp2_with fail
    refine (HS.out _).mono ?_
    rintro r w1 ⟨rfl, hb1⟩
    have HB : Hid (Below w.heap.size w w1) := hb1
    have K := HP.out.keep hb1
    clear hb1 c0 c1 c2 c3 c4 c5 c6
    have c0 := K.c0
    clear K
    go_wp2_with fail
    refine (HT.out n _).mono ?_
    rintro r w2 ⟨rfl, rfl⟩
    rw [hn]
    go_wp2_with fail
    go_ret
    exact ⟨rfl, HB.out⟩
  rw [askM_ok (by simp [askB, hm, hn]; omega)]
  have d : decide (n < t) = false := by simp [ht]
  go_enter Tryz.func78, Tryz.ntmps78
  go_wp2_with fail
  refine (HS.out _).mono ?_
  rintro r w1 ⟨rfl, hb1⟩
  have HB : Hid (Below w.heap.size w w1) := hb1
  have K := HP.out.keep hb1
  clear hb1 c0 c1 c2 c3 c4 c5 c6
  have c0 := K.c0
  clear K
  go_wp2_with fail
  refine (HT.out n _).mono ?_
  rintro r w2 ⟨rfl, rfl⟩
  rw [hn]
  go_wp2_with fail
  go_ret
  exact ⟨rfl, HB.out⟩
set_option maxHeartbeats 2000000 in
theorem l7Age_any (w : World) (B : Nat) (t g l s e : Int) (b1 b2 : Bool) (n : Int) (hp : MetaAt w B t g l s e b1 b2) (h : askB t g l s e n = true) :
    Calls Tryz.prog 130 #[.pointer (some ⟨B, 0, none⟩), .int .i64 n] w fun r w' => r = .returned (.int .i64 (ageM t g n)) ∧ Below w.heap.size w w' := by
  obtain ⟨hm, ⟨n0, n1⟩, tn⟩ := askB_of h
  obtain ⟨⟨t0, t1⟩, ⟨g0, g1⟩, _⟩ := metaB_of hm
  clear h hm
  have HA : Hid (∀ w, Calls Tryz.prog 175 #[.int .i64 g, .int .i64 (n - t)] w fun r w' => r = .returned (.int .i64 (ageM t g n)) ∧ w' = w) := l1Add_all g (n - t) ⟨g0, g1⟩ (by omega)
  have q0 := cell_regrown hp.c0
  have q1 := cell_regrown hp.c1
  clear hp
  generalize ageM t g n = a at *
  have cS : ∀ d' os, Calls Tryz.prog 175 #[.int .i64 g, .int .i64 (n - t)] (grow (redrawn w d') os) fun e w'' => e = .returned (.int .i64 a) ∧ ∃ p : Regrown, w'' = grow (redrawn w p.d) p.os := fun d' os => Calls.regrown_of ((HA.out _).mono fun _ _ ⟨h1, h2⟩ => ⟨h1, by rw [h2]; exact Below.refl _ _⟩)
  go_enter Tryz.func130, Tryz.ntmps130
  go_wp2_with fail
  refine wp_region_quiet_below (by kernel_rfl) (by kernel_rfl) ?_
  repeat (go_big_quiet_step (first | (go_at_call 175; exact cS _ _)))
  refine wpQuiet_nil ?_
  intro W2 hW2
  have hbW2 : Hid (Below w.heap.size w W2) := by
    obtain ⟨⟨d, os⟩, rfl⟩ := hW2
    exact below_regrown w d os
  clear hW2 cS q0 q1
  go_wp2_with fail
  go_ret
  exact ⟨rfl, hbW2.out⟩
def firstP (b1 b2 : Bool) : Int := if b2 = true then 3 else if b1 = true then 2 else 1
end Go.Proofs.YtopkidfbkhjaeaaGreatDoor
/-
  What is kept with an answer, within an entry.
-/
namespace Go.Proofs.YtopkidfbkhjaeaaGreatDoor
open Go.ChangeShapes Go.WideShapes Go.ChangeAt Go.RowKit Go.Sort
structure MetaE (w : World) (b : Nat) (t g l s e : Int) (b1 b2 : Bool) : Prop where
  c0 : w.cell? ⟨b, 4, none⟩ = some (.int .i64 t)
  c1 : w.cell? ⟨b, 5, none⟩ = some (.int .i64 g)
  c2 : w.cell? ⟨b, 6, none⟩ = some (.int .i64 l)
  c3 : w.cell? ⟨b, 7, none⟩ = some (.int .i64 s)
  c4 : w.cell? ⟨b, 8, none⟩ = some (.int .i64 e)
  c5 : w.cell? ⟨b, 9, none⟩ = some (.bool b1)
  c6 : w.cell? ⟨b, 10, none⟩ = some (.bool b2)
  fr : ∀ o, w.frozen? ⟨b, o, none⟩ = false
  lt : b < w.heap.size
theorem MetaE.keep {w w' : World} {b : Nat} {t g l s e : Int} {b1 b2 : Bool} (k : MetaE w b t g l s e b1 b2) (hb : Below w.heap.size w w') : MetaE w' b t g l s e b1 b2 :=
  ⟨by rw [hb.cell (p := ⟨b, 4, none⟩) k.lt]; exact k.c0, by rw [hb.cell (p := ⟨b, 5, none⟩) k.lt]; exact k.c1, by rw [hb.cell (p := ⟨b, 6, none⟩) k.lt]; exact k.c2, by rw [hb.cell (p := ⟨b, 7, none⟩) k.lt]; exact k.c3, by rw [hb.cell (p := ⟨b, 8, none⟩) k.lt]; exact k.c4, by rw [hb.cell (p := ⟨b, 9, none⟩) k.lt]; exact k.c5, by rw [hb.cell (p := ⟨b, 10, none⟩) k.lt]; exact k.c6, fun o => by rw [hb.frozen (p := ⟨b, o, none⟩) k.lt]; exact k.fr o, Nat.lt_of_lt_of_le k.lt hb.size⟩
set_option maxHeartbeats 2000000 in
theorem l7AskE_any (w : World) (B : Nat) (t g l s e : Int) (b1 b2 : Bool) (n : Int) (hp : MetaE w B t g l s e b1 b2) :
    Calls Tryz.prog 78 #[.pointer (some ⟨B, 4, none⟩), .int .i64 n] w fun r w' => r = .returned (.int .i64 (askM t g l s e n)) ∧ Below w.heap.size w w' := by
  have HS : Hid (∀ w, Calls Tryz.prog 104 #[.agg #[.int .i64 t, .int .i64 g, .int .i64 l, .int .i64 s, .int .i64 e, .bool b1, .bool b2]] w fun r w' => r = .returned (.int .i64 (metaC t g l s e)) ∧ Below w.heap.size w w') := specMeta_any t g l s e b1 b2
  have HT : Hid (∀ x w, Calls Tryz.prog 127 #[.int .i64 x] w fun r w' => r = .returned (.bool (timeB x)) ∧ w' = w) := l1Time_all
  have HP : Hid (MetaE w B t g l s e b1 b2) := hp
  obtain ⟨c0, c1, c2, c3, c4, c5, c6, _, _⟩ := hp
  cases hm : metaB t g l s e
  · rw [askM_bad (by simp [askB, hm])]
    rw [metaC_bad hm] at HS
    go_enter Tryz.func78, Tryz.ntmps78
    go_wp2_with fail
    refine (HS.out _).mono ?_
    rintro r w1 ⟨rfl, hb1⟩
    have HB : Hid (Below w.heap.size w w1) := hb1
    clear hb1 c0 c1 c2 c3 c4 c5 c6
    go_wp2_with fail
    go_ret
    exact ⟨rfl, HB.out⟩
  rw [metaC_ok hm] at HS
  cases hn : timeB n
  · rw [askM_bad (by simp [askB, hn])]
    go_enter Tryz.func78, Tryz.ntmps78
    go_wp2_with fail
    refine (HS.out _).mono ?_
    rintro r w1 ⟨rfl, hb1⟩
    have HB : Hid (Below w.heap.size w w1) := hb1
    clear hb1 c0 c1 c2 c3 c4 c5 c6
    go_wp2_with fail
    refine (HT.out n _).mono ?_
    rintro r w2 ⟨rfl, rfl⟩
    rw [hn]
    go_wp2_with fail
    go_ret
    exact ⟨rfl, HB.out⟩
  by_cases ht : n < t
  · rw [askM_bad (by simp [askB]; omega)]
    have d : decide (n < t) = true := by simp [ht]
    go_enter Tryz.func78, Tryz.ntmps78
    go_wp2_with fail
    refine (HS.out _).mono ?_
    rintro r w1 ⟨rfl, hb1⟩
    have HB : Hid (Below w.heap.size w w1) := hb1
    have K := HP.out.keep hb1
    clear hb1 c0 c1 c2 c3 c4 c5 c6
    have c0 := K.c0
    clear K
    go_wp2_with fail
    refine (HT.out n _).mono ?_
    rintro r w2 ⟨rfl, rfl⟩
    rw [hn]
    go_wp2_with fail
    go_ret
    exact ⟨rfl, HB.out⟩
  rw [askM_ok (by simp [askB, hm, hn]; omega)]
  have d : decide (n < t) = false := by simp [ht]
  go_enter Tryz.func78, Tryz.ntmps78
  go_wp2_with fail
  refine (HS.out _).mono ?_
  rintro r w1 ⟨rfl, hb1⟩
  have HB : Hid (Below w.heap.size w w1) := hb1
  have K := HP.out.keep hb1
  clear hb1 c0 c1 c2 c3 c4 c5 c6
  have c0 := K.c0
  clear K
  go_wp2_with fail
  refine (HT.out n _).mono ?_
  rintro r w2 ⟨rfl, rfl⟩
  rw [hn]
  go_wp2_with fail
  go_ret
  exact ⟨rfl, HB.out⟩
set_option maxHeartbeats 2000000 in
theorem l7AgeE_any (w : World) (B : Nat) (t g l s e : Int) (b1 b2 : Bool) (n : Int) (hp : MetaE w B t g l s e b1 b2) (h : askB t g l s e n = true) :
    Calls Tryz.prog 130 #[.pointer (some ⟨B, 4, none⟩), .int .i64 n] w fun r w' => r = .returned (.int .i64 (ageM t g n)) ∧ Below w.heap.size w w' := by
  obtain ⟨hm, ⟨n0, n1⟩, tn⟩ := askB_of h
  obtain ⟨⟨t0, t1⟩, ⟨g0, g1⟩, _⟩ := metaB_of hm
  clear h hm
  have HA : Hid (∀ w, Calls Tryz.prog 175 #[.int .i64 g, .int .i64 (n - t)] w fun r w' => r = .returned (.int .i64 (ageM t g n)) ∧ w' = w) := l1Add_all g (n - t) ⟨g0, g1⟩ (by omega)
  have q0 := cell_regrown hp.c0
  have q1 := cell_regrown hp.c1
  clear hp
  generalize ageM t g n = a at *
  have cS : ∀ d' os, Calls Tryz.prog 175 #[.int .i64 g, .int .i64 (n - t)] (grow (redrawn w d') os) fun e w'' => e = .returned (.int .i64 a) ∧ ∃ p : Regrown, w'' = grow (redrawn w p.d) p.os := fun d' os => Calls.regrown_of ((HA.out _).mono fun _ _ ⟨h1, h2⟩ => ⟨h1, by rw [h2]; exact Below.refl _ _⟩)
  go_enter Tryz.func130, Tryz.ntmps130
  go_wp2_with fail
  refine wp_region_quiet_below (by kernel_rfl) (by kernel_rfl) ?_
  repeat (go_big_quiet_step (first | (go_at_call 175; exact cS _ _)))
  refine wpQuiet_nil ?_
  intro W2 hW2
  have hbW2 : Hid (Below w.heap.size w W2) := by
    obtain ⟨⟨d, os⟩, rfl⟩ := hW2
    exact below_regrown w d os
  clear hW2 cS q0 q1
  go_wp2_with fail
  go_ret
  exact ⟨rfl, hbW2.out⟩
end Go.Proofs.YtopkidfbkhjaeaaGreatDoor
/-
  AgeAt and PhaseOf, on both sides.
-/
namespace Go.Proofs.YtopkidfbkhjaeaaGreatDoor
open Go.ChangeShapes Go.WideShapes Go.ChangeAt Go.RowKit Go.Sort
set_option maxHeartbeats 4000000 in
theorem implAge_any (t g l s e : Int) (b1 b2 : Bool) (n : Int) (w : World) :
    Calls Tryz.prog 81 #[.agg #[.int .i64 t, .int .i64 g, .int .i64 l, .int .i64 s, .int .i64 e, .bool b1, .bool b2], .int .i64 n] w fun r w' => r = .returned (.agg #[.int .i64 (askM t g l s e n), .int .i64 (ageA t g l s e n)]) ∧ Below w.heap.size w w' := by
  have HM : Hid (∀ w, Calls Tryz.prog 113 #[.agg #[.int .i64 t, .int .i64 g, .int .i64 l, .int .i64 s, .int .i64 e, .bool b1, .bool b2]] w fun r w' => r = .returned (.int .i64 (metaC t g l s e)) ∧ Below w.heap.size w w') := implMeta_any t g l s e b1 b2
  have HT : Hid (∀ x w, Calls Tryz.prog 131 #[.int .i64 x] w fun r w' => r = .returned (.bool (timeB x)) ∧ w' = w) := isTime_all
  have K0 : Hid (∀ w1, Below (w.heap.size + 2) ((w.alloc (.cells #[.int .i64 t, .int .i64 g, .int .i64 l, .int .i64 s, .int .i64 e, .bool b1, .bool b2] 54)).alloc (.cells #[.int .i64 0, .int .i64 0] 126)) w1 → Below w.heap.size w w1 ∧ MetaAt w1 w.heap.size t g l s e b1 b2 ∧ IR w1 (w.heap.size + 1) (.int .i64 0) (.int .i64 0)) := fun w1 hb => meta_ir w w1 t g l s e b1 b2 hb
  cases hm : metaB t g l s e
  · have ha : askB t g l s e n = false := by simp [askB, hm]
    rw [ageA_bad ha, askM_bad ha]
    rw [metaC_bad hm] at HM
    clear ha hm
    go_enter Tryz.func81, Tryz.ntmps81
    go_wp2_with fail
    refine (HM.out _).mono ?_
    rintro r w1 ⟨rfl, hb1⟩
    have K1 : Hid (Below w.heap.size w w1 ∧ MetaAt w1 w.heap.size t g l s e b1 b2 ∧ IR w1 (w.heap.size + 1) (.int .i64 0) (.int .i64 0)) := K0.out w1 (by simpa using hb1)
    clear hb1 K0
    obtain ⟨r0, r1, rf, _⟩ := K1.out.2.2
    have rf0 := rf 0
    have rf1 := rf 1
    clear rf
    go_wp2_with fail
    refine bodyPost_ret (v := .agg #[.int .i64 3, .int .i64 0]) ?_ rfl ⟨rfl, (K1.out.1.setCell (by simp) _).setCell (by simp) _⟩
    simp [results, Tryz.results81, go_sem, r0, r1]
  rw [metaC_ok hm] at HM
  cases hn : timeB n
  · have ha : askB t g l s e n = false := by simp [askB, hn]
    rw [ageA_bad ha, askM_bad ha]
    clear ha hm
    go_enter Tryz.func81, Tryz.ntmps81
    go_wp2_with fail
    refine (HM.out _).mono ?_
    rintro r w1 ⟨rfl, hb1⟩
    have K1 : Hid (Below w.heap.size w w1 ∧ MetaAt w1 w.heap.size t g l s e b1 b2 ∧ IR w1 (w.heap.size + 1) (.int .i64 0) (.int .i64 0)) := K0.out w1 (by simpa using hb1)
    clear hb1 K0
    go_wp2_with fail
    refine (HT.out n _).mono ?_
    rintro r w2 ⟨rfl, rfl⟩
    rw [hn]
    obtain ⟨r0, r1, rf, _⟩ := K1.out.2.2
    have rf0 := rf 0
    have rf1 := rf 1
    clear rf
    go_wp2_with fail
    refine bodyPost_ret (v := .agg #[.int .i64 3, .int .i64 0]) ?_ rfl ⟨rfl, (K1.out.1.setCell (by simp) _).setCell (by simp) _⟩
    simp [results, Tryz.results81, go_sem, r0, r1]
  by_cases ht : n < t
  · have ha : askB t g l s e n = false := by simp [askB]; omega
    rw [ageA_bad ha, askM_bad ha]
    have d : decide (n < t) = true := by simp [ht]
    clear ha hm
    go_enter Tryz.func81, Tryz.ntmps81
    go_wp2_with fail
    refine (HM.out _).mono ?_
    rintro r w1 ⟨rfl, hb1⟩
    have K1 : Hid (Below w.heap.size w w1 ∧ MetaAt w1 w.heap.size t g l s e b1 b2 ∧ IR w1 (w.heap.size + 1) (.int .i64 0) (.int .i64 0)) := K0.out w1 (by simpa using hb1)
    clear hb1 K0
    have c0 := K1.out.2.1.c0
    go_wp2_with fail
    refine (HT.out n _).mono ?_
    rintro r w2 ⟨rfl, rfl⟩
    rw [hn]
    obtain ⟨r0, r1, rf, _⟩ := K1.out.2.2
    have rf0 := rf 0
    have rf1 := rf 1
    clear rf
    go_wp2_with fail
    refine bodyPost_ret (v := .agg #[.int .i64 3, .int .i64 0]) ?_ rfl ⟨rfl, (K1.out.1.setCell (by simp) _).setCell (by simp) _⟩
    simp [results, Tryz.results81, go_sem, r0, r1]
  have ha : askB t g l s e n = true := by simp [askB, hm, hn]; omega
  have d : decide (n < t) = false := by simp [ht]
  obtain ⟨⟨t0, t1⟩, hg, _⟩ := metaB_of hm
  obtain ⟨n0, n1⟩ := timeB_of hn
  have HA : Hid (∀ w, Calls Tryz.prog 132 #[.int .i64 g, .int .i64 (n - t)] w fun r w' => r = .returned (.agg #[.int .i64 0, .int .i64 (ageM t g n)]) ∧ Below w.heap.size w w') := implAdd_all g (n - t) hg (by omega)
  rw [ageA_ok ha, askM_ok ha]
  clear ha hm hg
  generalize ageM t g n = z at *
  go_enter Tryz.func81, Tryz.ntmps81
  go_wp2_with fail
  refine (HM.out _).mono ?_
  rintro r w1 ⟨rfl, hb1⟩
  have K1 : Hid (Below w.heap.size w w1 ∧ MetaAt w1 w.heap.size t g l s e b1 b2 ∧ IR w1 (w.heap.size + 1) (.int .i64 0) (.int .i64 0)) := K0.out w1 (by simpa using hb1)
  clear hb1 K0
  have c0 := K1.out.2.1.c0
  have c1 := K1.out.2.1.c1
  go_wp2_with fail
  refine (HT.out n _).mono ?_
  rintro r w2 ⟨rfl, rfl⟩
  rw [hn]
  go_wp2_with fail
  refine (HA.out _).mono ?_
  rintro r w2 ⟨rfl, hb2⟩
  clear c0 c1
  have K2 : Hid (Below w.heap.size w w2 ∧ MetaAt w2 w.heap.size t g l s e b1 b2 ∧ IR w2 (w.heap.size + 1) (.int .i64 0) (.int .i64 0)) := ⟨K1.out.1.trans (hb2.mono K1.out.1.size), K1.out.2.1.keep hb2, K1.out.2.2.keep hb2⟩
  clear hb2 K1
  obtain ⟨r0, r1, rf, _⟩ := K2.out.2.2
  have rf0 := rf 0
  have rf1 := rf 1
  clear rf
  go_wp2_with fail
  refine bodyPost_ret (v := .agg #[.int .i64 0, .int .i64 z]) ?_ rfl ⟨rfl, (K2.out.1.setCell (by simp) _).setCell (by simp) _⟩
  simp [results, Tryz.results81, go_sem, r0, r1]
end Go.Proofs.YtopkidfbkhjaeaaGreatDoor
/-
  What the model's l1Digits answers: the decimal digits of a number.
-/
namespace Go.Proofs.YtopkidfbkhjaeaaGreatDoor
open Go.ChangeShapes Go.WideShapes Go.ChangeAt Go.RowKit
namespace num
/-- One byte in a slice of its own, as a text. -/
theorem one_byte (c : Int) (x : UInt8) (hx : (x.toNat : Int) = c) (W : World) (B cap : Nat) (hc : W.cell? ⟨B, 0, none⟩ = some (.int .u8 c)) :
    (convert 23 9 (.slice (some ⟨B, 0, none⟩) 1 cap)).run Tryz.prog W = .ok (.string ⟨#[x]⟩) W := by
  have := run_convert_bytes_back (P := Tryz.prog) W 23 9 5 ⟨B, 0, none⟩ cap [x] Tryz.underlying23 Tryz.underlying5 Tryz.underlying9 (fun j hj => by
    obtain rfl : j = 0 := by simp at hj; omega
    simp [Addr.add, hc, hx])
  simpa using this
theorem dig_nat (d : Nat) (h : d < 10) : ((UInt8.ofNat (48 + d)).toNat : Int) = 48 + (d : Int) := by
  rw [UInt8.toNat_ofNat_of_lt' (by show 48 + d < 256; omega)]; omega
set_option maxHeartbeats 1000000 in
theorem l1Digits_one (u : Nat) (h : u < 10) (w : World) :
    Calls Tryz.prog 129 #[.int .i64 u] w fun e w' => e = .returned (.string ⟨(Lib.decDigits u).toArray⟩) ∧ Below w.heap.size w w' := by
  have HD : Hid ((⟨#[UInt8.ofNat (48 + u)]⟩ : ByteArray) = ⟨(Lib.decDigits u).toArray⟩) := by
    show _ = _
    rw [Lib.decDigits_one h]
  have hcv := one_byte (48 + (u : Int)) (UInt8.ofNat (48 + u)) (dig_nat u h)
  have g : (u : Int) < 10 := by omega
  generalize (⟨#[UInt8.ofNat (48 + u)]⟩ : ByteArray) = r at *
  go_enter Tryz.func129, Tryz.ntmps129
  go_wp2_with fail
  go_ret
  exact ⟨ret_str HD.out, (Below.refl _ _).alloc (Nat.le_refl _) _⟩
set_option maxHeartbeats 1000000 in
theorem l1Digits_any (k : Nat) : ∀ (u : Nat) (w : World), u < 10 ^ k → u ≤ 1000000000000000 →
    Calls Tryz.prog 129 #[.int .i64 u] w fun e w' => e = .returned (.string ⟨(Lib.decDigits u).toArray⟩) ∧ Below w.heap.size w w' := by
  induction k with
  | zero =>
    intro u w h _
    exact l1Digits_one u (by simp at h; omega) w
  | succ k ih =>
    intro u w h hb
    by_cases c : u < 10
    · exact l1Digits_one u c w
    · have IH : Hid (∀ w, Calls Tryz.prog 129 #[.int .i64 ((u : Int) / 10)] w fun e w' => e = .returned (.string ⟨(Lib.decDigits (u / 10)).toArray⟩) ∧ Below w.heap.size w w') := by
        intro w
        have := ih (u / 10) w (by rw [Nat.pow_succ] at h; omega) (by omega)
        rw [show (((u / 10 : Nat)) : Int) = (u : Int) / 10 from by omega] at this
        exact this
      have HD : Hid ((⟨(Lib.decDigits (u / 10)).toArray⟩ : ByteArray) ++ (⟨#[UInt8.ofNat (48 + u % 10)]⟩ : ByteArray) = ⟨(Lib.decDigits u).toArray⟩) := by
        show _ = _
        rw [show Lib.decDigits u = Lib.decDigits (u / 10) ++ [UInt8.ofNat (48 + u % 10)] from by rw [Lib.decDigits, dif_neg c]]
        apply ByteArray.ext
        simp
      have hcv := one_byte (48 + (u : Int) % 10) (UInt8.ofNat (48 + u % 10)) (by rw [dig_nat (u % 10) (by omega)]; omega)
      have g : ¬ (u : Int) < 10 := by omega
      have g2 : (u : Int) ≤ 1000000000000000 := by omega
      have e1 : IntKind.i64.wrap ((u : Int) / 10) = (u : Int) / 10 := by rw [IntKind.wrap_i64]; omega
      have e2 : IntKind.u8.wrap (IntKind.i64.wrap (48 + (u : Int).tmod 10)) = 48 + (u : Int) % 10 := by
        rw [Int.tmod_eq_emod_of_nonneg (by omega), IntKind.wrap_i64, IntKind.wrap_u8]; omega
      clear ih h c
      have zr : (⟨#[UInt8.ofNat (48 + u % 10)]⟩ : ByteArray).size ≤ 1 := Nat.le_refl _
      have zq : (⟨(Lib.decDigits (u / 10)).toArray⟩ : ByteArray).size ≤ 21 := by
        have := Lib.itoa_length_le ((u / 10 : Nat) : Int) (by omega) (by omega)
        rw [Lib.itoa_nonneg] at this
        simpa [ByteArray.size] using this
      generalize (⟨#[UInt8.ofNat (48 + u % 10)]⟩ : ByteArray) = r at *
      generalize (⟨(Lib.decDigits (u / 10)).toArray⟩ : ByteArray) = q at *
      have hadd := fun w => run_string_add_sum (P := Tryz.prog) (w := w) q r (by omega)
      go_enter Tryz.func129, Tryz.ntmps129
      go_wp2_with fail
      go_region_with (go_at_call 129; refine (IH.out _).mono ?_; rintro e w1 ⟨rfl, hb1⟩; obtain ⟨hc1, hf1⟩ := bcell hb1; have hz1 := hb1.size)
      all_goals (go_wp2_with fail; go_ret; refine ⟨ret_str HD.out, ?_⟩; clear IH HD hcv hadd)
      · exact ((Below.refl w.heap.size w).drew.trans hb1).alloc hz1 _
      · exact (((Below.refl w.heap.size w).alloc (Nat.le_refl _) _).drew).trans (hb1.mono (by simp))
      · exact (((Below.refl w.heap.size w).alloc (Nat.le_refl _) _).drew).trans (hb1.mono (by simp))
end num
end Go.Proofs.YtopkidfbkhjaeaaGreatDoor
/-
  What NumberText and its model answer; the law of NumberText out of them.
-/
namespace Go.Proofs.YtopkidfbkhjaeaaGreatDoor
open Go.ChangeShapes Go.WideShapes Go.ChangeAt Go.RowKit
namespace num
/-- The library's table of powers of ten lies in memory. -/
def PowIs (w : World) : Prop := Lib.TabIs Tryz.prog w "internal/strconv.uint64pow10" .u64 Lib.pow10Tab
theorem powNamed : Tryz.prog.globalNamed "internal/strconv.uint64pow10" = some 6 := by kernel_rfl
theorem PowIs.below {w w' : World} (h : PowIs w) (hb : Below w.heap.size w w') : PowIs w' := by
  unfold PowIs Lib.TabIs at h ⊢
  refine var?_below hb powNamed ?_ h
  unfold World.var? at h
  rw [powNamed] at h
  simp only [Option.bind_some] at h
  cases hh : w.heap[6]? with
  | none => rw [hh] at h; cases h
  | some o => exact (Array.getElem?_eq_some_iff.1 hh).1
def numT (n : Int) : ByteArray := ⟨(Lib.itoa n).toArray⟩
theorem format_lib (n : Int) (h0 : 0 ≤ n) (h1 : n ≤ 1000000000000000) (w : World) (h : PowIs w) :
    Calls Tryz.prog 177 #[.int .i64 n, .int .i64 10] w fun e w' => e = .returned (.string (numT n)) ∧ Below w.heap.size w w' := by
  refine (Any.strconv_FormatInt_10 Tryz.laysM173 n (by omega) (by omega) w h).mono ?_
  rintro e w' ⟨rfl, k, os, rfl⟩
  exact ⟨rfl, Lib.below_grow _ _ (Nat.le_refl _) _ _⟩
theorem l1Digits_all (n : Int) (h0 : 0 ≤ n) (h1 : n ≤ 1000000000000000) (w : World) :
    Calls Tryz.prog 129 #[.int .i64 n] w fun e w' => e = .returned (.string (numT n)) ∧ Below w.heap.size w w' := by
  obtain ⟨u, rfl⟩ := Int.eq_ofNat_of_zero_le h0
  have := l1Digits_any 16 u w (by omega) (by omega)
  unfold numT
  rw [Lib.itoa_nonneg]
  exact this
set_option maxHeartbeats 400000 in
theorem implNum_bad (n : Int) (w : World) (h : n < 0 ∨ 1000000000000000 < n) :
    Calls Tryz.prog 134 #[.int .i64 n] w fun e w' => e = .returned (.agg #[.int .i64 3, .string ⟨#[]⟩]) ∧ Below w.heap.size w w' := by
  rcases h with h | h
  · go_enter Tryz.func134, Tryz.ntmps134
    go_wp2
    exact bodyPost_ret (v := .agg #[.int .i64 3, .string ⟨#[]⟩]) (by simp [results, Tryz.results134, go_sem]) rfl ⟨rfl, (Below.refl _ _).alloc (Nat.le_refl _) _⟩
  · have h0 : 0 ≤ n := by omega
    have d : decide (n ≤ 1000000000000000) = false := by simp; omega
    go_enter Tryz.func134, Tryz.ntmps134
    go_wp2
    exact bodyPost_ret (v := .agg #[.int .i64 3, .string ⟨#[]⟩]) (by simp [results, Tryz.results134, go_sem]) rfl ⟨rfl, (Below.refl _ _).alloc (Nat.le_refl _) _⟩
set_option maxHeartbeats 400000 in
theorem implNum_any (n : Int) (w : World) (h0 : 0 ≤ n) (h1 : n ≤ 1000000000000000) (hp : PowIs w) :
    Calls Tryz.prog 134 #[.int .i64 n] w fun e w' => e = .returned (.agg #[.int .i64 0, .string (numT n)]) ∧ Below w.heap.size w w' := by
  have HP : Hid (PowIs (w.alloc (.cells #[.int .i64 0, .string ⟨#[]⟩] 105))) := hp.below ((Below.refl _ _).alloc (Nat.le_refl _) _)
  clear hp
  have d : decide (n ≤ 1000000000000000) = true := by simpa using h1
  go_enter Tryz.func134, Tryz.ntmps134
  go_wp2_with (go_at_call 131; go_in)
  refine (format_lib n h0 h1 _ HP.out).mono ?_
  rintro e w1 ⟨rfl, hb⟩
  simp only [World.size_alloc] at hb
  have hz := hb.size
  simp only [World.size_alloc] at hz
  have p0 : w1.cell? ⟨w.heap.size, 0, none⟩ = some (.int .i64 0) := by rw [hb.cell (p := ⟨w.heap.size, 0, none⟩) (Nat.lt_succ_self _)]; simp
  have p1 : w1.cell? ⟨w.heap.size, 1, none⟩ = some (.string ⟨#[]⟩) := by rw [hb.cell (p := ⟨w.heap.size, 1, none⟩) (Nat.lt_succ_self _)]; simp
  have f0 : w1.frozen? ⟨w.heap.size, 0, none⟩ = false := by rw [hb.frozen (p := ⟨w.heap.size, 0, none⟩) (Nat.lt_succ_self _)]; simp
  have f1 : w1.frozen? ⟨w.heap.size, 1, none⟩ = false := by rw [hb.frozen (p := ⟨w.heap.size, 1, none⟩) (Nat.lt_succ_self _)]; simp
  generalize hr : numT n = r
  have HL : Hid (r = numT n) := hr.symm
  clear hr
  obtain ⟨q0, q1⟩ := two_set (v0 := .int .i64 0) (v1 := .string r) p0 p1
  go_wp2
  have kb : Below w.heap.size w w1 := ((Below.refl _ _).alloc (Nat.le_refl _) _).trans (hb.mono (Nat.le_succ _))
  exact bodyPost_ret (v := .agg #[.int .i64 0, .string r]) (by simp [results, Tryz.results134, go_sem, q0, q1]) rfl ⟨by rw [HL.out], (kb.setCell (Nat.le_refl _) _).setCell (Nat.le_refl _) _⟩
end num
end Go.Proofs.YtopkidfbkhjaeaaGreatDoor
/-
  Is it an entry? The specification's answer.
-/
namespace Go.Proofs.YtopkidfbkhjaeaaGreatDoor
open Go.ChangeShapes Go.WideShapes Go.ChangeAt Go.RowKit Go.Sort
def stB (st : Int) : Bool := decide (st = 200) || decide (st = 404) || decide (st = 410)
def pinB (p : Int) : Bool := decide (0 ≤ p) && decide (p ≤ 20)
def entryC (key : ByteArray) (st pins : Int) (hs : List Hdr) (bn tn : Nat) (t g l s e : Int) : Int :=
  if key.size < 1 ∨ 500 < key.size then 2 else
  if (stB st && pinB pins) = false then 3 else
  if headsC hs ≠ 0 then headsC hs else
  if 2000 < bn ∨ 10 < tn then 2 else metaC t g l s e
set_option maxHeartbeats 8000000 in
theorem specEntry_any (w : World) (key : ByteArray) (st : Int) (ha : Option Addr) (hc : Nat) (ba : Option Addr) (bc : Nat) (t g l s e : Int) (b1 b2 : Bool) (ta : Option Addr) (tc : Nat) (pins : Int) (hs : List Hdr) (bn tn : Nat) (hk : key.size ≤ maxLen) (hhl : hs.length ≤ 1048576) (hbn : bn ≤ maxLen) (htn : tn ≤ maxLen) (hH : HdsIn w ha hs) :
    Calls Tryz.prog 57 #[.agg #[.string key, .int .i64 st, .slice ha hs.length hc, .slice ba bn bc, .int .i64 t, .int .i64 g, .int .i64 l, .int .i64 s, .int .i64 e, .bool b1, .bool b2, .slice ta tn tc, .int .i64 pins]] w fun r w' => r = .returned (.int .i64 (entryC key st pins hs bn tn t g l s e)) ∧ Below w.heap.size w w' := by
  have HK : Hid (Below w.heap.size w (w.alloc (.cells #[.string key, .int .i64 st, .slice ha hs.length hc, .slice ba bn bc, .int .i64 t, .int .i64 g, .int .i64 l, .int .i64 s, .int .i64 e, .bool b1, .bool b2, .slice ta tn tc, .int .i64 pins] 56)) ∧ E13 (w.alloc (.cells #[.string key, .int .i64 st, .slice ha hs.length hc, .slice ba bn bc, .int .i64 t, .int .i64 g, .int .i64 l, .int .i64 s, .int .i64 e, .bool b1, .bool b2, .slice ta tn tc, .int .i64 pins] 56)) w.heap.size (.string key) (.int .i64 st) (.slice ha hs.length hc) (.slice ba bn bc) (.int .i64 t) (.int .i64 g) (.int .i64 l) (.int .i64 s) (.int .i64 e) (.bool b1) (.bool b2) (.slice ta tn tc) (.int .i64 pins)) := ⟨(Below.refl _ _).alloc (Nat.le_refl _) _, E13.new w _ _ _ _ _ _ _ _ _ _ _ _ _ _⟩
  have HI : Hid (∀ w, Calls Tryz.prog 85 #[.int .i64 pins, .int .i64 0, .int .i64 20] w fun r w' => r = .returned (.bool (pinB pins)) ∧ w' = w) := l1In_all pins 0 20
  have HH : Hid (∀ X, Below w.heap.size w X → Calls Tryz.prog 86 #[.slice ha hs.length hc] X fun e w' => e = .returned (.int .i64 (headsC hs)) ∧ Below X.heap.size X w') := fun X hb => specHFault_any X ha hc hs hhl (hH.keep hb)
  have HM : Hid (∀ X, Calls Tryz.prog 104 #[.agg #[.int .i64 t, .int .i64 g, .int .i64 l, .int .i64 s, .int .i64 e, .bool b1, .bool b2]] X fun r w' => r = .returned (.int .i64 (metaC t g l s e)) ∧ Below X.heap.size X w') := fun X => specMeta_any t g l s e b1 b2 X
  obtain ⟨Z, hZ⟩ : ∃ Z, entryC key st pins hs bn tn t g l s e = Z := ⟨_, rfl⟩
  rw [hZ]
  unfold entryC at hZ
  obtain ⟨hcd, hhc⟩ : ∃ x, headsC hs = x := ⟨_, rfl⟩
  obtain ⟨mcd, hmc⟩ : ∃ x, metaC t g l s e = x := ⟨_, rfl⟩
  obtain ⟨pb, hpb⟩ : ∃ x, pinB pins = x := ⟨_, rfl⟩
  rw [hhc] at HH hZ
  rw [hmc] at HM hZ
  rw [hpb] at HI hZ
  clear hhc hmc hpb hH hhl
  generalize hs.length = hl at *
  unfold maxLen at hk hbn htn
  have HZ : Hid (_ = Z) := hZ
  clear hZ
  by_cases c1 : key.size < 1
  · have HR := HZ.out
    rw [if_pos (.inl c1)] at HR
    rw [← HR]
    clear HR HZ
    go_enter Tryz.func57, Tryz.ntmps57
    go_wp2_with fail
    go_ret
    exact ⟨rfl, HK.out.1⟩
  by_cases c2 : 500 < key.size
  · have HR := HZ.out
    rw [if_pos (.inr c2)] at HR
    rw [← HR]
    clear HR HZ
    go_enter Tryz.func57, Tryz.ntmps57
    go_wp2_with fail
    go_ret
    exact ⟨rfl, HK.out.1⟩
  rw [if_neg (by omega)] at HZ
  by_cases hst : stB st = false
  · have HR := HZ.out
    rw [if_pos (by rw [hst]; rfl)] at HR
    rw [← HR]
    clear HR HZ
    unfold stB at hst
    have n1 : st ≠ 200 := fun q => by subst q; simp at hst
    have n2 : st ≠ 404 := fun q => by subst q; simp at hst
    have n3 : st ≠ 410 := fun q => by subst q; simp at hst
    clear hst
    go_enter Tryz.func57, Tryz.ntmps57
    go_wp2_with fail
    go_ret
    exact ⟨rfl, HK.out.1⟩
  have hst1 : stB st = true := by cases q : stB st <;> simp_all
  clear hst
  rw [hst1, Bool.true_and] at HZ
  have three : st = 200 ∨ st = 404 ∨ st = 410 := by unfold stB at hst1; simp at hst1; omega
  clear hst1
  rcases three with h | h | h
  · subst h
    cases pb
    · have HR := HZ.out
      rw [if_pos rfl] at HR
      rw [← HR]
      clear HR HZ
      go_enter Tryz.func57, Tryz.ntmps57
      go_wp2_with fail
      refine (HI.out _).mono ?_
      rintro r w1 ⟨rfl, rfl⟩
      go_wp2_with fail
      go_ret
      exact ⟨rfl, HK.out.1⟩
    rw [if_neg (by decide)] at HZ
    have HE : Hid (∀ X, Below w.heap.size w X → Calls Tryz.prog 86 #[.slice ha hl hc] X fun e w' => e = .returned (.int .i64 hcd) ∧ Below X.heap.size X w') := HH
    by_cases c3 : hcd ≠ 0
    · have HR := HZ.out
      rw [if_pos c3] at HR
      rw [← HR]
      clear HR HZ
      go_enter Tryz.func57, Tryz.ntmps57
      go_wp2_with fail
      refine (HI.out _).mono ?_
      rintro r w1 ⟨rfl, rfl⟩
      have q2 := HK.out.2.c2
      go_wp2_with fail
      refine (HH.out _ HK.out.1).mono ?_
      rintro r w2 ⟨rfl, hb2⟩
      have HB2 : Hid (Below w.heap.size w w2) := HK.out.1.trans (hb2.mono HK.out.1.size)
      clear hb2
      go_wp2_with fail
      go_ret
      exact ⟨rfl, HB2.out⟩
    rw [if_neg c3] at HZ
    have c3' : hcd = 0 := by omega
    subst c3'
    clear c3 HE
    by_cases c4 : 2000 < bn
    · have HR := HZ.out
      rw [if_pos (.inl c4)] at HR
      rw [← HR]
      clear HR HZ
      go_enter Tryz.func57, Tryz.ntmps57
      go_wp2_with fail
      refine (HI.out _).mono ?_
      rintro r w1 ⟨rfl, rfl⟩
      have q2 := HK.out.2.c2
      go_wp2_with fail
      refine (HH.out _ HK.out.1).mono ?_
      rintro r w2 ⟨rfl, hb2⟩
      have HK2 : Hid (Below w.heap.size w w2 ∧ E13 w2 w.heap.size (.string key) (.int .i64 200) (.slice ha hl hc) (.slice ba bn bc) (.int .i64 t) (.int .i64 g) (.int .i64 l) (.int .i64 s) (.int .i64 e) (.bool b1) (.bool b2) (.slice ta tn tc) (.int .i64 pins)) := ⟨HK.out.1.trans (hb2.mono HK.out.1.size), HK.out.2.keep hb2⟩
      clear hb2
      have k3 := HK2.out.2.c3
      have k4 := HK2.out.2.c4
      have k5 := HK2.out.2.c5
      have k6 := HK2.out.2.c6
      have k7 := HK2.out.2.c7
      have k8 := HK2.out.2.c8
      have k9 := HK2.out.2.c9
      have k10 := HK2.out.2.c10
      have k11 := HK2.out.2.c11
      go_wp2_with fail
      go_ret
      exact ⟨rfl, HK2.out.1⟩
    by_cases c5 : 10 < tn
    · have HR := HZ.out
      rw [if_pos (.inr c5)] at HR
      rw [← HR]
      clear HR HZ
      go_enter Tryz.func57, Tryz.ntmps57
      go_wp2_with fail
      refine (HI.out _).mono ?_
      rintro r w1 ⟨rfl, rfl⟩
      have q2 := HK.out.2.c2
      go_wp2_with fail
      refine (HH.out _ HK.out.1).mono ?_
      rintro r w2 ⟨rfl, hb2⟩
      have HK2 : Hid (Below w.heap.size w w2 ∧ E13 w2 w.heap.size (.string key) (.int .i64 200) (.slice ha hl hc) (.slice ba bn bc) (.int .i64 t) (.int .i64 g) (.int .i64 l) (.int .i64 s) (.int .i64 e) (.bool b1) (.bool b2) (.slice ta tn tc) (.int .i64 pins)) := ⟨HK.out.1.trans (hb2.mono HK.out.1.size), HK.out.2.keep hb2⟩
      clear hb2
      have k3 := HK2.out.2.c3
      have k4 := HK2.out.2.c4
      have k5 := HK2.out.2.c5
      have k6 := HK2.out.2.c6
      have k7 := HK2.out.2.c7
      have k8 := HK2.out.2.c8
      have k9 := HK2.out.2.c9
      have k10 := HK2.out.2.c10
      have k11 := HK2.out.2.c11
      go_wp2_with fail
      go_ret
      exact ⟨rfl, HK2.out.1⟩
    rw [if_neg (by omega)] at HZ
    · rw [← HZ.out]
      clear HZ
      go_enter Tryz.func57, Tryz.ntmps57
      go_wp2_with fail
      refine (HI.out _).mono ?_
      rintro r w1 ⟨rfl, rfl⟩
      have q2 := HK.out.2.c2
      go_wp2_with fail
      refine (HH.out _ HK.out.1).mono ?_
      rintro r w2 ⟨rfl, hb2⟩
      have HK2 : Hid (Below w.heap.size w w2 ∧ E13 w2 w.heap.size (.string key) (.int .i64 200) (.slice ha hl hc) (.slice ba bn bc) (.int .i64 t) (.int .i64 g) (.int .i64 l) (.int .i64 s) (.int .i64 e) (.bool b1) (.bool b2) (.slice ta tn tc) (.int .i64 pins)) := ⟨HK.out.1.trans (hb2.mono HK.out.1.size), HK.out.2.keep hb2⟩
      clear hb2
      have k3 := HK2.out.2.c3
      have k4 := HK2.out.2.c4
      have k5 := HK2.out.2.c5
      have k6 := HK2.out.2.c6
      have k7 := HK2.out.2.c7
      have k8 := HK2.out.2.c8
      have k9 := HK2.out.2.c9
      have k10 := HK2.out.2.c10
      have k11 := HK2.out.2.c11
      go_wp2_with fail
      refine (HM.out _).mono ?_
      rintro r w3 ⟨rfl, hb3⟩
      have HB3 : Hid (Below w.heap.size w w3) := HK2.out.1.trans (hb3.mono HK2.out.1.size)
      clear hb3
      go_wp2_with fail
      go_ret
      exact ⟨rfl, HB3.out⟩
  · subst h
    cases pb
    · have HR := HZ.out
      rw [if_pos rfl] at HR
      rw [← HR]
      clear HR HZ
      go_enter Tryz.func57, Tryz.ntmps57
      go_wp2_with fail
      refine (HI.out _).mono ?_
      rintro r w1 ⟨rfl, rfl⟩
      go_wp2_with fail
      go_ret
      exact ⟨rfl, HK.out.1⟩
    rw [if_neg (by decide)] at HZ
    have HE : Hid (∀ X, Below w.heap.size w X → Calls Tryz.prog 86 #[.slice ha hl hc] X fun e w' => e = .returned (.int .i64 hcd) ∧ Below X.heap.size X w') := HH
    by_cases c3 : hcd ≠ 0
    · have HR := HZ.out
      rw [if_pos c3] at HR
      rw [← HR]
      clear HR HZ
      go_enter Tryz.func57, Tryz.ntmps57
      go_wp2_with fail
      refine (HI.out _).mono ?_
      rintro r w1 ⟨rfl, rfl⟩
      have q2 := HK.out.2.c2
      go_wp2_with fail
      refine (HH.out _ HK.out.1).mono ?_
      rintro r w2 ⟨rfl, hb2⟩
      have HB2 : Hid (Below w.heap.size w w2) := HK.out.1.trans (hb2.mono HK.out.1.size)
      clear hb2
      go_wp2_with fail
      go_ret
      exact ⟨rfl, HB2.out⟩
    rw [if_neg c3] at HZ
    have c3' : hcd = 0 := by omega
    subst c3'
    clear c3 HE
    by_cases c4 : 2000 < bn
    · have HR := HZ.out
      rw [if_pos (.inl c4)] at HR
      rw [← HR]
      clear HR HZ
      go_enter Tryz.func57, Tryz.ntmps57
      go_wp2_with fail
      refine (HI.out _).mono ?_
      rintro r w1 ⟨rfl, rfl⟩
      have q2 := HK.out.2.c2
      go_wp2_with fail
      refine (HH.out _ HK.out.1).mono ?_
      rintro r w2 ⟨rfl, hb2⟩
      have HK2 : Hid (Below w.heap.size w w2 ∧ E13 w2 w.heap.size (.string key) (.int .i64 404) (.slice ha hl hc) (.slice ba bn bc) (.int .i64 t) (.int .i64 g) (.int .i64 l) (.int .i64 s) (.int .i64 e) (.bool b1) (.bool b2) (.slice ta tn tc) (.int .i64 pins)) := ⟨HK.out.1.trans (hb2.mono HK.out.1.size), HK.out.2.keep hb2⟩
      clear hb2
      have k3 := HK2.out.2.c3
      have k4 := HK2.out.2.c4
      have k5 := HK2.out.2.c5
      have k6 := HK2.out.2.c6
      have k7 := HK2.out.2.c7
      have k8 := HK2.out.2.c8
      have k9 := HK2.out.2.c9
      have k10 := HK2.out.2.c10
      have k11 := HK2.out.2.c11
      go_wp2_with fail
      go_ret
      exact ⟨rfl, HK2.out.1⟩
    by_cases c5 : 10 < tn
    · have HR := HZ.out
      rw [if_pos (.inr c5)] at HR
      rw [← HR]
      clear HR HZ
      go_enter Tryz.func57, Tryz.ntmps57
      go_wp2_with fail
      refine (HI.out _).mono ?_
      rintro r w1 ⟨rfl, rfl⟩
      have q2 := HK.out.2.c2
      go_wp2_with fail
      refine (HH.out _ HK.out.1).mono ?_
      rintro r w2 ⟨rfl, hb2⟩
      have HK2 : Hid (Below w.heap.size w w2 ∧ E13 w2 w.heap.size (.string key) (.int .i64 404) (.slice ha hl hc) (.slice ba bn bc) (.int .i64 t) (.int .i64 g) (.int .i64 l) (.int .i64 s) (.int .i64 e) (.bool b1) (.bool b2) (.slice ta tn tc) (.int .i64 pins)) := ⟨HK.out.1.trans (hb2.mono HK.out.1.size), HK.out.2.keep hb2⟩
      clear hb2
      have k3 := HK2.out.2.c3
      have k4 := HK2.out.2.c4
      have k5 := HK2.out.2.c5
      have k6 := HK2.out.2.c6
      have k7 := HK2.out.2.c7
      have k8 := HK2.out.2.c8
      have k9 := HK2.out.2.c9
      have k10 := HK2.out.2.c10
      have k11 := HK2.out.2.c11
      go_wp2_with fail
      go_ret
      exact ⟨rfl, HK2.out.1⟩
    rw [if_neg (by omega)] at HZ
    · rw [← HZ.out]
      clear HZ
      go_enter Tryz.func57, Tryz.ntmps57
      go_wp2_with fail
      refine (HI.out _).mono ?_
      rintro r w1 ⟨rfl, rfl⟩
      have q2 := HK.out.2.c2
      go_wp2_with fail
      refine (HH.out _ HK.out.1).mono ?_
      rintro r w2 ⟨rfl, hb2⟩
      have HK2 : Hid (Below w.heap.size w w2 ∧ E13 w2 w.heap.size (.string key) (.int .i64 404) (.slice ha hl hc) (.slice ba bn bc) (.int .i64 t) (.int .i64 g) (.int .i64 l) (.int .i64 s) (.int .i64 e) (.bool b1) (.bool b2) (.slice ta tn tc) (.int .i64 pins)) := ⟨HK.out.1.trans (hb2.mono HK.out.1.size), HK.out.2.keep hb2⟩
      clear hb2
      have k3 := HK2.out.2.c3
      have k4 := HK2.out.2.c4
      have k5 := HK2.out.2.c5
      have k6 := HK2.out.2.c6
      have k7 := HK2.out.2.c7
      have k8 := HK2.out.2.c8
      have k9 := HK2.out.2.c9
      have k10 := HK2.out.2.c10
      have k11 := HK2.out.2.c11
      go_wp2_with fail
      refine (HM.out _).mono ?_
      rintro r w3 ⟨rfl, hb3⟩
      have HB3 : Hid (Below w.heap.size w w3) := HK2.out.1.trans (hb3.mono HK2.out.1.size)
      clear hb3
      go_wp2_with fail
      go_ret
      exact ⟨rfl, HB3.out⟩
  · subst h
    cases pb
    · have HR := HZ.out
      rw [if_pos rfl] at HR
      rw [← HR]
      clear HR HZ
      go_enter Tryz.func57, Tryz.ntmps57
      go_wp2_with fail
      refine (HI.out _).mono ?_
      rintro r w1 ⟨rfl, rfl⟩
      go_wp2_with fail
      go_ret
      exact ⟨rfl, HK.out.1⟩
    rw [if_neg (by decide)] at HZ
    have HE : Hid (∀ X, Below w.heap.size w X → Calls Tryz.prog 86 #[.slice ha hl hc] X fun e w' => e = .returned (.int .i64 hcd) ∧ Below X.heap.size X w') := HH
    by_cases c3 : hcd ≠ 0
    · have HR := HZ.out
      rw [if_pos c3] at HR
      rw [← HR]
      clear HR HZ
      go_enter Tryz.func57, Tryz.ntmps57
      go_wp2_with fail
      refine (HI.out _).mono ?_
      rintro r w1 ⟨rfl, rfl⟩
      have q2 := HK.out.2.c2
      go_wp2_with fail
      refine (HH.out _ HK.out.1).mono ?_
      rintro r w2 ⟨rfl, hb2⟩
      have HB2 : Hid (Below w.heap.size w w2) := HK.out.1.trans (hb2.mono HK.out.1.size)
      clear hb2
      go_wp2_with fail
      go_ret
      exact ⟨rfl, HB2.out⟩
    rw [if_neg c3] at HZ
    have c3' : hcd = 0 := by omega
    subst c3'
    clear c3 HE
    by_cases c4 : 2000 < bn
    · have HR := HZ.out
      rw [if_pos (.inl c4)] at HR
      rw [← HR]
      clear HR HZ
      go_enter Tryz.func57, Tryz.ntmps57
      go_wp2_with fail
      refine (HI.out _).mono ?_
      rintro r w1 ⟨rfl, rfl⟩
      have q2 := HK.out.2.c2
      go_wp2_with fail
      refine (HH.out _ HK.out.1).mono ?_
      rintro r w2 ⟨rfl, hb2⟩
      have HK2 : Hid (Below w.heap.size w w2 ∧ E13 w2 w.heap.size (.string key) (.int .i64 410) (.slice ha hl hc) (.slice ba bn bc) (.int .i64 t) (.int .i64 g) (.int .i64 l) (.int .i64 s) (.int .i64 e) (.bool b1) (.bool b2) (.slice ta tn tc) (.int .i64 pins)) := ⟨HK.out.1.trans (hb2.mono HK.out.1.size), HK.out.2.keep hb2⟩
      clear hb2
      have k3 := HK2.out.2.c3
      have k4 := HK2.out.2.c4
      have k5 := HK2.out.2.c5
      have k6 := HK2.out.2.c6
      have k7 := HK2.out.2.c7
      have k8 := HK2.out.2.c8
      have k9 := HK2.out.2.c9
      have k10 := HK2.out.2.c10
      have k11 := HK2.out.2.c11
      go_wp2_with fail
      go_ret
      exact ⟨rfl, HK2.out.1⟩
    by_cases c5 : 10 < tn
    · have HR := HZ.out
      rw [if_pos (.inr c5)] at HR
      rw [← HR]
      clear HR HZ
      go_enter Tryz.func57, Tryz.ntmps57
      go_wp2_with fail
      refine (HI.out _).mono ?_
      rintro r w1 ⟨rfl, rfl⟩
      have q2 := HK.out.2.c2
      go_wp2_with fail
      refine (HH.out _ HK.out.1).mono ?_
      rintro r w2 ⟨rfl, hb2⟩
      have HK2 : Hid (Below w.heap.size w w2 ∧ E13 w2 w.heap.size (.string key) (.int .i64 410) (.slice ha hl hc) (.slice ba bn bc) (.int .i64 t) (.int .i64 g) (.int .i64 l) (.int .i64 s) (.int .i64 e) (.bool b1) (.bool b2) (.slice ta tn tc) (.int .i64 pins)) := ⟨HK.out.1.trans (hb2.mono HK.out.1.size), HK.out.2.keep hb2⟩
      clear hb2
      have k3 := HK2.out.2.c3
      have k4 := HK2.out.2.c4
      have k5 := HK2.out.2.c5
      have k6 := HK2.out.2.c6
      have k7 := HK2.out.2.c7
      have k8 := HK2.out.2.c8
      have k9 := HK2.out.2.c9
      have k10 := HK2.out.2.c10
      have k11 := HK2.out.2.c11
      go_wp2_with fail
      go_ret
      exact ⟨rfl, HK2.out.1⟩
    rw [if_neg (by omega)] at HZ
    · rw [← HZ.out]
      clear HZ
      go_enter Tryz.func57, Tryz.ntmps57
      go_wp2_with fail
      refine (HI.out _).mono ?_
      rintro r w1 ⟨rfl, rfl⟩
      have q2 := HK.out.2.c2
      go_wp2_with fail
      refine (HH.out _ HK.out.1).mono ?_
      rintro r w2 ⟨rfl, hb2⟩
      have HK2 : Hid (Below w.heap.size w w2 ∧ E13 w2 w.heap.size (.string key) (.int .i64 410) (.slice ha hl hc) (.slice ba bn bc) (.int .i64 t) (.int .i64 g) (.int .i64 l) (.int .i64 s) (.int .i64 e) (.bool b1) (.bool b2) (.slice ta tn tc) (.int .i64 pins)) := ⟨HK.out.1.trans (hb2.mono HK.out.1.size), HK.out.2.keep hb2⟩
      clear hb2
      have k3 := HK2.out.2.c3
      have k4 := HK2.out.2.c4
      have k5 := HK2.out.2.c5
      have k6 := HK2.out.2.c6
      have k7 := HK2.out.2.c7
      have k8 := HK2.out.2.c8
      have k9 := HK2.out.2.c9
      have k10 := HK2.out.2.c10
      have k11 := HK2.out.2.c11
      go_wp2_with fail
      refine (HM.out _).mono ?_
      rintro r w3 ⟨rfl, hb3⟩
      have HB3 : Hid (Below w.heap.size w w3) := HK2.out.1.trans (hb3.mono HK2.out.1.size)
      clear hb3
      go_wp2_with fail
      go_ret
      exact ⟨rfl, HB3.out⟩
end Go.Proofs.YtopkidfbkhjaeaaGreatDoor
/-
  AnswerOf: plain, and by the model.
-/
namespace Go.Proofs.YtopkidfbkhjaeaaGreatDoor
open Go.ChangeShapes Go.WideShapes Go.ChangeAt Go.RowKit Go.Sort
abbrev ageN : ByteArray := ⟨#[65, 103, 101]⟩
/-- The lines of an answer of a kept one. -/
def ansL (l : List Hdr) (a : Int) (src : ByteArray) : List Hdr := setGo ⟨cacheN, src⟩ false (setGo ⟨ageN, num.numT (a.tdiv 1000)⟩ false l)
def ansC (c m : Int) (l : List Hdr) (a : Int) (src : ByteArray) : Int :=
  if c ≠ 0 then c else if m ≠ 0 then m else if wordS src = false then 5 else if 20 < (ansL l a src).length then 2 else 0
def ansR (c st : Int) : Int := if c = 0 then st else 0
def ansLs (c : Int) (l : List Hdr) (a : Int) (src : ByteArray) : List Hdr := if c = 0 then ansL l a src else []
theorem setGo_sub (h : Hdr) : ∀ (b : Bool) (l : List Hdr) (r : Hdr), r ∈ setGo h b l → r = h ∨ r ∈ l
  | true, [], r, k => by simp [(setGo_end h).1] at k
  | false, [], r, k => by simp [(setGo_end h).2] at k; exact .inl k
  | b, x :: l, r, k => by
    by_cases he : lowS x.name = lowS h.name
    · cases b
      · rw [setGo_put he] at k
        rcases List.mem_cons.1 k with e | k
        · exact .inl e
        · rcases setGo_sub h true l r k with e | e
          · exact .inl e
          · exact .inr (List.mem_cons_of_mem _ e)
      · rw [setGo_skip he] at k
        rcases setGo_sub h true l r k with e | e
        · exact .inl e
        · exact .inr (List.mem_cons_of_mem _ e)
    · rw [setGo_other he] at k
      rcases List.mem_cons.1 k with e | k
      · subst e; exact .inr (by simp)
      · rcases setGo_sub h b l r k with e | e
        · exact .inl e
        · exact .inr (List.mem_cons_of_mem _ e)
theorem setGo_le (h : Hdr) (l : List Hdr) : (setGo h false l).length ≤ l.length + 1 := by
  rw [setGo_len]
  have := dropH_len (lowS h.name) l
  cases firstAt (lowS h.name) l <;> simp only <;> omega
theorem dec_len : ∀ (k u : Nat), u < 10 ^ (k + 1) → (Lib.decDigits u).length ≤ k + 1
  | 0, u, h => by rw [Lib.decDigits_one (by simpa using h)]; simp
  | k + 1, u, h => by
    by_cases c : u < 10
    · rw [Lib.decDigits_one c]; simp
    · rw [Lib.decDigits, dif_neg c]
      have := dec_len k (u / 10) (by rw [Nat.div_lt_iff_lt_mul (by omega)]; rw [Nat.pow_succ] at h; omega)
      simp only [List.length_append, List.length_cons, List.length_nil]
      omega
theorem numT_len {n : Int} (h0 : 0 ≤ n) (h1 : n ≤ 1000000000000000) : (num.numT n).size ≤ 20 := by
  obtain ⟨u, rfl⟩ := Int.eq_ofNat_of_zero_le h0
  have e : (num.numT (u : Int)).size = (Lib.decDigits u).length := by simp [num.numT, Lib.itoa_nonneg, ByteArray.size]
  rw [e]
  exact Nat.le_trans (dec_len 19 u (by have : (10 : Nat) ^ (19 + 1) = 100000000000000000000 := by decide
                                       omega)) (by omega)
theorem ageM_bd {t g l s e n : Int} (h : askM t g l s e n = 0) : askB t g l s e n = true ∧ 0 ≤ ageM t g n ∧ ageM t g n ≤ 1000000000000000 := by
  have hb : askB t g l s e n = true := by
    cases hh : askB t g l s e n
    · rw [askM_bad hh] at h; cases h
    · rfl
  obtain ⟨hm, ⟨n0, n1⟩, tn⟩ := askB_of hb
  obtain ⟨⟨t0, t1⟩, ⟨g0, g1⟩, _⟩ := metaB_of hm
  refine ⟨hb, ?_⟩
  unfold ageM addT
  split <;> omega
/-- What AnswerOf answers. -/
def AnsRes (c st : Int) (L : List Hdr) (B : List UInt8) (w w' : World) (e : Ending) : Prop :=
  ∃ ra rn rk rb rm rl, e = .returned (.agg #[.int .i64 c, .int .i64 st, .slice ra rn rk, .slice rb rm rl]) ∧ At w.heap.size w'.heap.size (RR L B ra rn rk rb rm rl) w'
theorem AnsRes.bad {c d st : Int} {l : List Hdr} {a : Int} {src : ByteArray} {hd : Bool} {bs : List UInt8} {w w' : World} (h : c = d) (h0 : d ≠ 0) : AnsRes c (ansR c st) (ansLs c l a src) (relB c hd bs) w w' (.returned (.agg #[.int .i64 d, .int .i64 0, .slice none 0 0, .slice none 0 0])) := by
  subst h
  refine ⟨none, 0, 0, none, 0, 0, ?_, ?_⟩
  · unfold ansR; rw [if_neg h0]
  · unfold ansLs relB; rw [if_neg h0, if_neg h0]; exact (RR.nil _ _)
theorem AnsRes.good {c st : Int} {l : List Hdr} {a : Int} {src : ByteArray} {hd : Bool} {bs : List UInt8} {w w' : World} {ra : Option Addr} {rn rk : Nat} {rb : Option Addr} {rm rl : Nat} (h : c = 0) (k : At w.heap.size w'.heap.size (RR (ansL l a src) (bodyL hd bs) ra rn rk rb rm rl) w') : AnsRes c (ansR c st) (ansLs c l a src) (relB c hd bs) w w' (.returned (.agg #[.int .i64 0, .int .i64 st, .slice ra rn rk, .slice rb rm rl])) := by
  subst h
  exact ⟨ra, rn, rk, rb, rm, rl, rfl, k⟩
theorem Bx.meta {X : World} {B : Nat} {key : ByteArray} {st : Int} {v2 v3 v11 : Value} {t g l s e : Int} {b1 b2 : Bool} {pins : Int} (k : At B (B + 1) (Bx B [.string key, .int .i64 st, v2, v3, .int .i64 t, .int .i64 g, .int .i64 l, .int .i64 s, .int .i64 e, .bool b1, .bool b2, v11, .int .i64 pins]) X) : MetaE X B t g l s e b1 b2 :=
  ⟨k.val.1 4 _ rfl, k.val.1 5 _ rfl, k.val.1 6 _ rfl, k.val.1 7 _ rfl, k.val.1 8 _ rfl, k.val.1 9 _ rfl, k.val.1 10 _ rfl, k.val.2, k.le⟩
set_option maxRecDepth 100000 in
set_option maxHeartbeats 16000000 in
theorem l13Answer_any (w : World) (B : Nat) (key : ByteArray) (st : Int) (ha : Option Addr) (hc : Nat) (ba : Option Addr) (bc : Nat) (t g l s e : Int) (b1 b2 : Bool) (ta : Option Addr) (tn tc : Nat) (pins : Int) (hs : List Hdr) (bs : List UInt8) (n : Int) (src : ByteArray) (hd : Bool) (h20 : hs.length ≤ 20) (hz : ∀ (i : Nat) r, hs[i]? = some r → r.name.size ≤ 64) (hbl : bs.length ≤ 1048576) (hask : askM t g l s e n = 0) (hi : HdsIn w ha hs) (hib : BIn w ba bs) (bx : At B (B + 1) (Bx B [.string key, .int .i64 st, .slice ha hs.length hc, .slice ba bs.length bc, .int .i64 t, .int .i64 g, .int .i64 l, .int .i64 s, .int .i64 e, .bool b1, .bool b2, .slice ta tn tc, .int .i64 pins]) w) :
    Calls Tryz.prog 80 #[.pointer (some ⟨B, 0, none⟩), .int .i64 n, .string src, .bool hd] w fun r w' => (∃ ra rk rb rl, r = .returned (.agg #[.int .i64 st, .slice ra (ansL hs (ageM t g n) src).length rk, .slice rb (bodyL hd bs).length rl]) ∧ At w.heap.size w'.heap.size (RR (ansL hs (ageM t g n) src) (bodyL hd bs) ra (ansL hs (ageM t g n) src).length rk rb (bodyL hd bs).length rl) w') ∧ Below w.heap.size w w' := by
  obtain ⟨hab, a0, a1⟩ := ageM_bd hask
  have td : 0 ≤ (ageM t g n).tdiv 1000 ∧ (ageM t g n).tdiv 1000 ≤ 1000000000000000 := by
    rw [Int.tdiv_eq_ediv_of_nonneg a0]
    omega
  obtain ⟨W, hW⟩ : ∃ W, W = w.alloc (.cells #[.int .i64 0, .slice none 0 0, .slice none 0 0] 29) := ⟨_, rfl⟩
  have HW : Hid (W = w.alloc (.cells #[.int .i64 0, .slice none 0 0, .slice none 0 0] 29)) := hW
  have bW : Below w.heap.size w W := by rw [hW]; exact (Below.refl _ _).alloc (Nat.le_refl _) _
  have HP : Hid (∀ X, Below w.heap.size w X → At B (B + 1) (Bx B [.string key, .int .i64 st, .slice ha hs.length hc, .slice ba bs.length bc, .int .i64 t, .int .i64 g, .int .i64 l, .int .i64 s, .int .i64 e, .bool b1, .bool b2, .slice ta tn tc, .int .i64 pins]) X) := fun X hX => bx.keep hX
  have KW : Hid (Below w.heap.size w W ∧ At w.heap.size (w.heap.size + 1) (Bx w.heap.size [.int .i64 0, .slice none 0 0, .slice none 0 0]) W ∧ B < w.heap.size) := ⟨bW, by rw [hW]; exact Bx.new _ _ _, bx.le⟩
  have CA : Hid (∀ X, Below w.heap.size w X → Calls Tryz.prog 130 #[.pointer (some ⟨B, 4, none⟩), .int .i64 n] X fun r w' => r = .returned (.int .i64 (ageM t g n)) ∧ Below X.heap.size X w') := fun X hX => l7AgeE_any X B t g l s e b1 b2 n (Bx.meta (bx.keep hX)) hab
  have CD : Hid (∀ X, Calls Tryz.prog 129 #[.int .i64 ((ageM t g n).tdiv 1000)] X fun r w' => r = .returned (.string (num.numT ((ageM t g n).tdiv 1000))) ∧ Below X.heap.size X w') := fun X => num.l1Digits_all _ td.1 td.2 X
  have CS1 : Hid (∀ X, Below w.heap.size w X → Calls Tryz.prog 87 #[.slice ha hs.length hc, .agg #[.string ageN, .string (num.numT ((ageM t g n).tdiv 1000))]] X fun r w' => (∃ va vn vc, r = .returned (.slice va vn vc) ∧ At X.heap.size w'.heap.size (HLn va vn vc (setGo ⟨ageN, num.numT ((ageM t g n).tdiv 1000)⟩ false hs)) w') ∧ Below X.heap.size X w') := fun X hX => (l4Set_any X ha hc hs ⟨ageN, _⟩ (by omega) hz (show ageN.size ≤ 64 by decide) (hi.keep hX)).mono fun r w' ⟨⟨v, h1, h2⟩, h3⟩ => by
    obtain ⟨va, vc, rfl, _⟩ := row_form h2
    exact ⟨⟨va, _, vc, h1, HLn.of (RowH.at h2)⟩, h3⟩
  have CS2 : Hid (∀ X lo hi' va vn vc, At lo hi' (HLn va vn vc (setGo ⟨ageN, num.numT ((ageM t g n).tdiv 1000)⟩ false hs)) X → Calls Tryz.prog 87 #[.slice va vn vc, .agg #[.string cacheN, .string src]] X fun r w' => (∃ va vc, r = .returned (.slice va (ansL hs (ageM t g n) src).length vc) ∧ At X.heap.size w'.heap.size (HL (.slice va (ansL hs (ageM t g n) src).length vc) (ansL hs (ageM t g n) src)) w') ∧ Below X.heap.size X w') := fun X lo hi' va vn vc c => by
    have e1 := c.val.1
    subst e1
    refine (l4Set_any X va vc _ ⟨cacheN, src⟩ (by have := setGo_le ⟨ageN, num.numT ((ageM t g n).tdiv 1000)⟩ hs; omega) (fun i r hr => ?_) (show cacheN.size ≤ 64 by decide) (c.val.2.in rfl).2).mono fun r w' ⟨⟨v, h1, h2⟩, h3⟩ => by
      obtain ⟨va, vc, rfl, _⟩ := row_form h2
      exact ⟨⟨va, vc, h1, RowH.at h2⟩, h3⟩
    rcases setGo_sub _ _ _ _ (List.mem_of_getElem? hr) with q | q
    · subst q; show ageN.size ≤ 64; decide
    · obtain ⟨j, hj⟩ := List.mem_iff_getElem?.1 q
      exact hz j r hj
  have CB : Hid (∀ X, Below w.heap.size w X → Calls Tryz.prog 89 #[.slice ba bs.length bc, .bool hd] X fun r w' => (∃ b k, r = .returned (.slice b (bodyL hd bs).length k) ∧ At X.heap.size w'.heap.size (BL (.slice b (bodyL hd bs).length k) (bodyL hd bs)) w') ∧ Below X.heap.size X w') := fun X hX => specBody_any X ba bc bs hd hbl (hib.keep hX)
  clear hW bW hi hib bx hz hbl h20 hask hab
  generalize bodyL hd bs = BL0 at *
  have HKS : Hid (∀ X, Below W.heap.size W X → X.cell? ⟨B, 2, none⟩ = some (.slice ha hs.length hc)) := fun X hX => (HP.out X (KW.out.1.trans (hX.mono KW.out.1.size))).val.1 2 _ rfl
  have HLW : Hid (∀ X, Below W.heap.size W X → Below w.heap.size w X) := fun X hX => KW.out.1.trans (hX.mono KW.out.1.size)
  have B0 : Hid (Below W.heap.size W W.drew) := (Below.refl _ _).drew
  have e0 : IntKind.i64.wrap ((ageM t g n).tdiv 1000) = (ageM t g n).tdiv 1000 := by
    unfold IntKind.wrap; simp [IntKind.signed, IntKind.bits]; omega
  clear a0 a1 td
  go_enter Tryz.func80, Tryz.ntmps80
  go_upto_region 1 with fail
  rw [← HW.out]
  clear HW
  go_region_held3 (fun X => X.cell? ⟨B, 2, none⟩ = some (.slice ha hs.length hc))
    (first | ((with_reducible refine HKS.out _ ?_); (with_reducible exact BC.out)) | ((with_reducible refine HKS.out _ ?_); (with_reducible exact BB.out)) | ((with_reducible refine HKS.out _ ?_); (with_reducible exact BA.out)) | ((with_reducible refine HKS.out _ ?_); (with_reducible exact B0.out)))
    (first
    | (go_at_call 130; (with_reducible refine (CA.out W.drew (HLW.out _ B0.out)).mono ?_); rintro r0 wa ⟨rfl, hb⟩; have BA : Hid (Below W.heap.size W wa) := B0.out.trans (hb.mono B0.out.size); clear hb)
    | (go_at_call 129; (with_reducible refine (CD.out wa).mono ?_); rintro r0 wb ⟨rfl, hb⟩; have BB : Hid (Below W.heap.size W wb) := BA.out.trans (hb.mono BA.out.size); clear hb)
    | (go_at_call 87; (with_reducible refine (CS1.out wb (HLW.out _ BB.out)).mono ?_); rintro r0 w1 ⟨⟨va, vn, vc, rfl, c1⟩, hb⟩; have BC : Hid (Below W.heap.size W w1) := BB.out.trans (hb.mono BB.out.size); have C1 : Hid (At wb.heap.size w1.heap.size (HLn va vn vc (setGo ⟨ageN, num.numT ((ageM t g n).tdiv 1000)⟩ false hs)) w1) := c1; clear c1 hb))
  have K1 : Hid (Below w.heap.size w w1 ∧ At w.heap.size (w.heap.size + 1) (Bx w.heap.size [.int .i64 0, .slice none 0 0, .slice none 0 0]) w1) := ⟨HLW.out _ BC.out, KW.out.2.1.keep BC.out⟩
  clear HKS B0 BA BB BC CA CD CS1 HLW
  go_wp2_with fail
  refine (CS2.out w1 _ _ va vn vc C1.out).mono ?_
  rintro r w2 ⟨⟨va, vc, rfl, c2⟩, hb2⟩
  have K2 : Hid (Below w.heap.size w w2 ∧ At w.heap.size (w.heap.size + 1) (Bx w.heap.size [.int .i64 0, .slice none 0 0, .slice none 0 0]) w2 ∧ At w1.heap.size w2.heap.size (HL (.slice va (ansL hs (ageM t g n) src).length vc) (ansL hs (ageM t g n) src)) w2 ∧ w.heap.size + 1 ≤ w1.heap.size) := ⟨K1.out.1.trans (hb2.mono K1.out.1.size), K1.out.2.keep hb2, c2, K1.out.2.le⟩
  clear c2 hb2 K1 CS2 C1
  have HB : Hid (B < w.heap.size) := KW.out.2.2
  have HKS : Hid (∀ X, Below w2.heap.size w2 X → X.cell? ⟨B, 1, none⟩ = some (.int .i64 st) ∧ X.cell? ⟨B, 3, none⟩ = some (.slice ba bs.length bc)) := fun X hX => ⟨(HP.out X (K2.out.1.trans (hX.mono K2.out.1.size))).val.1 1 _ rfl, (HP.out X (K2.out.1.trans (hX.mono K2.out.1.size))).val.1 3 _ rfl⟩
  have B0 : Hid (Below w2.heap.size w2 w2.drew) := (Below.refl _ _).drew
  go_upto_region 3 with fail
  go_region_held3 (fun X => X.cell? ⟨B, 1, none⟩ = some (.int .i64 st) ∧ X.cell? ⟨B, 3, none⟩ = some (.slice ba bs.length bc))
    (first | (with_reducible exact SF.out) | ((with_reducible refine HKS.out _ ?_); (with_reducible exact BB.out)) | ((with_reducible refine HKS.out _ ?_); (with_reducible exact B0.out)))
    (first
    | (go_at_call 89; (with_reducible refine (CB.out w2.drew (K2.out.1.trans (B0.out.mono K2.out.1.size))).mono ?_); rintro e0 w5 ⟨⟨b5, k5, rfl, cb⟩, hb⟩; have BB : Hid (Below w2.heap.size w2 w5) := B0.out.trans (hb.mono B0.out.size); have CB5 : Hid (At w2.heap.size w5.heap.size (BL (.slice b5 BL0.length k5) BL0) w5) := cb; have KB := K2.out.2.1.keep BB.out; have z0 := KB.val.1 0 _ rfl; have z1 := KB.val.1 1 _ rfl; have z2 := KB.val.1 2 _ rfl; have zf0 := KB.val.2 0; have zf1 := KB.val.2 1; have zf2 := KB.val.2 2; have SF : Hid ((((w5.setCell ⟨w.heap.size, 0, none⟩ (.int .i64 st)).setCell ⟨w.heap.size, 1, none⟩ (.slice va (ansL hs (ageM t g n) src).length vc)).setCell ⟨w.heap.size, 2, none⟩ (.slice b5 BL0.length k5)).cell? ⟨B, 1, none⟩ = some (.int .i64 st) ∧ (((w5.setCell ⟨w.heap.size, 0, none⟩ (.int .i64 st)).setCell ⟨w.heap.size, 1, none⟩ (.slice va (ansL hs (ageM t g n) src).length vc)).setCell ⟨w.heap.size, 2, none⟩ (.slice b5 BL0.length k5)).cell? ⟨B, 3, none⟩ = some (.slice ba bs.length bc)) := (by have ne : ∀ (i o : Nat), (⟨w.heap.size, i, none⟩ : Addr) ≠ ⟨B, o, none⟩ := fun i o q => (by have := congrArg Addr.block q; have := HB.out; simp only at *; omega); rw [World.cell?_setCell_other _ _ _ _ (ne _ _), World.cell?_setCell_other _ _ _ _ (ne _ _), World.cell?_setCell_other _ _ _ _ (ne _ _), World.cell?_setCell_other _ _ _ _ (ne _ _), World.cell?_setCell_other _ _ _ _ (ne _ _), World.cell?_setCell_other _ _ _ _ (ne _ _)]; exact HKS.out _ BB.out); clear hb cb KB))
  have HF : Hid (At w.heap.size w5.heap.size (RR (ansL hs (ageM t g n) src) BL0 va (ansL hs (ageM t g n) src).length vc b5 BL0.length k5) (((w5.setCell ⟨w.heap.size, 0, none⟩ (.int .i64 st)).setCell ⟨w.heap.size, 1, none⟩ (.slice va (ansL hs (ageM t g n) src).length vc)).setCell ⟨w.heap.size, 2, none⟩ (.slice b5 BL0.length k5)) ∧ Below w.heap.size w (((w5.setCell ⟨w.heap.size, 0, none⟩ (.int .i64 st)).setCell ⟨w.heap.size, 1, none⟩ (.slice va (ansL hs (ageM t g n) src).length vc)).setCell ⟨w.heap.size, 2, none⟩ (.slice b5 BL0.length k5))) := by
    have c1 := K2.out.2.2.1.keep BB.out
    have c2 := CB5.out
    have hy := K2.out.2.2.2
    have ho := K2.out.2.2.1.le
    have e1 := c1.le
    have hbs := CB5.out.le
    have bb := K2.out.1.trans (BB.out.mono K2.out.1.size)
    have s1 := BB.out.size
    have hx := K2.out.2.1.le
    exact ⟨RR.of (((c1.set _ (.inl (by omega))).set _ (.inl (by omega))).set _ (.inl (by omega))) (((c2.set _ (.inl (by omega))).set _ (.inl (by omega))).set _ (.inl (by omega))) (.inl ho) (by omega) (by omega) (by omega) (Nat.le_refl _) (by simp), ((bb.setCell (Nat.le_refl _) _).setCell (Nat.le_refl _) _).setCell (Nat.le_refl _) _⟩
  clear HKS B0 BB CB5 K2 HP CB
  go_wp2_with fail
  exact bodyPost_ret (v := .agg #[.int .i64 st, .slice va (ansL hs (ageM t g n) src).length vc, .slice b5 BL0.length k5]) (by simp [results, Tryz.results80, go_sem, z0, z1, z2]) rfl ⟨⟨va, vc, b5, k5, rfl, by simpa using HF.out.1⟩, HF.out.2⟩
end Go.Proofs.YtopkidfbkhjaeaaGreatDoor
/-
  Head lines that were packed are read back, plainly. No Go in sight.
-/
namespace Go.Proofs.YtopkidfbkhjaeaaGreatDoor
theorem trim_space {v : List UInt8} (h : Lib.trimS v [32, 9] = v) : Lib.trimS (32 :: v) [32, 9] = v := by
  unfold Lib.trimS Lib.trimLeftS Lib.trimRightS at *
  have p32 : ([32, 9] : List UInt8).contains 32 = true := by decide
  generalize hp : (fun x => ([32, 9] : List UInt8).contains x) = p at *
  have q32 : p 32 = true := by rw [← hp]; exact p32
  have l1 : ((v.reverse.dropWhile p).reverse.dropWhile p).length ≤ (v.reverse.dropWhile p).reverse.length := (List.dropWhile_sublist p).length_le
  have l2 : (v.reverse.dropWhile p).length ≤ v.reverse.length := (List.dropWhile_sublist p).length_le
  rw [h] at l1
  rw [List.length_reverse] at l1
  have e1 : v.reverse.dropWhile p = v.reverse := (List.dropWhile_sublist p).eq_of_length (by rw [List.length_reverse] at l2 ⊢; omega)
  rw [e1, List.reverse_reverse] at h
  cases hv : v.reverse with
  | nil =>
    have : v = [] := by simpa using hv
    subst this
    simp [q32]
  | cons x t =>
    rw [hv] at e1
    have hx : p x = false := by
      cases hpx : p x with
      | false => rfl
      | true =>
        rw [List.dropWhile_cons_of_pos hpx] at e1
        have := (List.dropWhile_sublist p (l := t)).length_le
        rw [e1, List.length_cons] at this
        omega
    have e2 : (32 :: v).reverse.dropWhile p = (32 :: v).reverse := by
      rw [List.reverse_cons, hv, List.cons_append, List.dropWhile_cons_of_neg (by rw [hx]; decide)]
    rw [e2, List.reverse_reverse, List.dropWhile_cons_of_pos q32]
    exact h
theorem crAt_line : ∀ (b r : List UInt8), (∀ c ∈ b, c ≠ 13) → crAt (b ++ 13 :: 10 :: r) = b.length
  | [], r, _ => by simp [crAt]
  | c :: b, r, h => by
    have ih := crAt_line b r (fun c hc => h c (by simp [hc]))
    obtain ⟨d, t, e⟩ : ∃ d t, b ++ 13 :: 10 :: r = d :: t := by cases b <;> simp
    rw [List.cons_append, e, crAt, if_neg (fun x => h c (by simp) x.1), ← e, ih]
    simp only [List.length_cons]; omega
theorem clAt_line : ∀ (n t : List UInt8), (∀ c ∈ n, c ≠ 58) → clAt (n ++ 58 :: t) = n.length
  | [], t, _ => by simp [clAt]
  | c :: n, t, h => by
    have ih := clAt_line n t (fun c hc => h c (by simp [hc]))
    rw [List.cons_append, clAt, if_neg (h c (by simp)), ih]
    simp only [List.length_cons]; omega
theorem word_mem {s : ByteArray} (h : wordS s = true) : ∀ c ∈ s.data.toList, c ≠ 58 ∧ c ≠ 13 := by
  have h2 : allW s.data.toList = true := by
    simp only [wordS, Bool.and_eq_true] at h
    exact h.2
  intro c hc
  have := List.all_eq_true.1 h2 c hc
  refine ⟨fun e => ?_, fun e => ?_⟩ <;> subst e <;> revert this <;> decide +kernel
theorem plain_mem {l : List UInt8} (h : plainL l = true) : ∀ c ∈ l, c ≠ 13 := by
  intro c hc e
  have := List.all_eq_true.1 h c hc
  subst e
  revert this
  decide
theorem lineOf_back {r : Hdr} (h : faultH r = 0) : lineOf (r.name.data.toList ++ 58 :: 32 :: r.value.data.toList) = r := by
  obtain ⟨hw, _, _, ht⟩ := faultH_zero h
  have hc := clAt_line r.name.data.toList (32 :: r.value.data.toList) (fun c hc => (word_mem hw c hc).1)
  unfold lineOf
  rw [hc, List.take_left]
  have e2 : (r.name.data.toList ++ 58 :: 32 :: r.value.data.toList).drop (r.name.data.toList.length + 1) = 32 :: r.value.data.toList := by
    rw [← List.drop_drop, List.drop_left]; rfl
  rw [e2]
  obtain ⟨n, v⟩ := r
  simp only at *
  have hn : hmk n.data.toList = n := (hof_list rfl).symm
  have hvv : trimT (hmk (32 :: v.data.toList)) = v := by
    have hv : Lib.trimS v.data.toList [32, 9] = v.data.toList := by
      have := congrArg (fun b : ByteArray => b.data.toList) ht
      simpa [trimT] using this
    unfold trimT
    rw [hmk_list, trim_space hv]
  rw [hn, hvv]
theorem read_pack : ∀ l : List Hdr, (∀ r ∈ l, faultH r = 0) → readT (packL l) = some l
  | [], _ => readT_nil
  | r :: l, h => by
    have ih := read_pack l (fun q hq => h q (by simp [hq]))
    have h0 := h r (by simp)
    obtain ⟨hw, hz, hp, ht⟩ := faultH_zero h0
    have hb := lineOf_back h0
    have hcl := clAt_line r.name.data.toList (32 :: r.value.data.toList) (fun c hc => (word_mem hw c hc).1)
    have e : packL (r :: l) = (r.name.data.toList ++ 58 :: 32 :: r.value.data.toList) ++ 13 :: 10 :: packL l := by simp [packL, lineL]
    have h13 : ∀ c ∈ r.name.data.toList ++ 58 :: 32 :: r.value.data.toList, c ≠ 13 := by
      intro c hc
      simp only [List.mem_append, List.mem_cons] at hc
      rcases hc with hc | rfl | rfl | hc
      · exact (word_mem hw c hc).2
      · decide
      · decide
      · exact plain_mem hp c hc
    have hlt : clAt (r.name.data.toList ++ 58 :: 32 :: r.value.data.toList) < (r.name.data.toList ++ 58 :: 32 :: r.value.data.toList).length := by rw [hcl]; simp only [List.length_append, List.length_cons]; omega
    rw [e]
    generalize r.name.data.toList ++ 58 :: 32 :: r.value.data.toList = b at *
    have hc := crAt_line b (packL l) h13
    have t1 : (b ++ 13 :: 10 :: packL l).take b.length = b := List.take_left
    have t2 : (b ++ 13 :: 10 :: packL l).drop (b.length + 2) = packL l := by rw [← List.drop_drop, List.drop_left]; rfl
    rw [readT_take (by rw [hc]; simp only [List.length_append, List.length_cons]; omega) (by rw [hc, t1]; exact hlt), hc, t1, t2, ih, hb]
    rfl
theorem packL_len4 : ∀ l : List Hdr, (∀ r ∈ l, faultH r = 0) → (packL l).length ≤ l.length * 268
  | [], _ => by simp [packL]
  | r :: l, h => by
    have ih := packL_len4 l (fun q hq => h q (by simp [hq]))
    have := lineL_len (h r (by simp))
    have e : packL (r :: l) = lineL r ++ packL l := by simp [packL]
    rw [e, List.length_append, List.length_cons]
    omega
theorem heads_mem {l : List Hdr} (h : headsC l = 0) : l.length ≤ 20 ∧ ∀ r ∈ l, faultH r = 0 := by
  obtain ⟨h1, h2⟩ := headsC_zero h
  refine ⟨h1, fun r hr => ?_⟩
  obtain ⟨i, hi⟩ := List.mem_iff_getElem?.1 hr
  exact h2 i r hi
theorem heads_of {l : List Hdr} (h1 : l.length ≤ 20) (h2 : ∀ r ∈ l, faultH r = 0) : headsC l = 0 := by rw [headsC_few (by omega)]; exact faultHL_of l h2
theorem pack_read {l : List Hdr} (h : headsC l = 0) : readHC (packT l) = 0 ∧ readHL (packT l) = l := by
  obtain ⟨h1, h2⟩ := heads_mem h
  have hl := packL_len4 l h2
  have hr := read_pack l h2
  rw [packT_ok h]
  exact readH_ok (by show ¬ 6000 < (packL l).toArray.size; rw [List.size_toArray]; omega) hr h
theorem read_heads {s : ByteArray} (h : readHC s = 0) : headsC (readHL s) = 0 := by
  by_cases c : 6000 < s.size
  · rw [(readH_long c).1] at h; omega
  · cases hr : readT s.data.toList with
    | none => rw [(readH_bad c hr).1] at h; omega
    | some L =>
      by_cases hL : headsC L = 0
      · rw [(readH_ok c hr hL).2]; exact hL
      · rw [(readH_fault c hr hL).1] at h; exact absurd h hL
end Go.Proofs.YtopkidfbkhjaeaaGreatDoor
/-
  What an entry costs, by the specification.
-/
namespace Go.Proofs.YtopkidfbkhjaeaaGreatDoor
open Go.ChangeShapes Go.WideShapes Go.ChangeAt Go.RowKit Go.Sort
/-- What an entry costs that has no fault. -/
def costN (key : ByteArray) (hs : List Hdr) (bn : Nat) : Int := 50 + ((key.size : Int) + ((packL hs).length : Int) + (bn : Int))
end Go.Proofs.YtopkidfbkhjaeaaGreatDoor
/-
  CostOf, by the specification.
-/
namespace Go.Proofs.YtopkidfbkhjaeaaGreatDoor
open Go.ChangeShapes Go.WideShapes Go.ChangeAt Go.RowKit Go.Sort
theorem entryC_zero {key : ByteArray} {st pins : Int} {hs : List Hdr} {bn tn : Nat} {t g l s e : Int} (h : entryC key st pins hs bn tn t g l s e = 0) : (1 ≤ key.size ∧ key.size ≤ 500) ∧ stB st = true ∧ pinB pins = true ∧ headsC hs = 0 ∧ bn ≤ 2000 ∧ tn ≤ 10 ∧ metaC t g l s e = 0 := by
  unfold entryC at h
  split at h
  · omega
  split at h
  · omega
  split at h
  · contradiction
  split at h
  · omega
  rename_i c1 c2 c3 c4
  have hb : stB st = true ∧ pinB pins = true := by cases x : stB st <;> cases y : pinB pins <;> simp_all
  exact ⟨by omega, hb.1, hb.2, by omega, by omega, by omega, h⟩
end Go.Proofs.YtopkidfbkhjaeaaGreatDoor
/-
  AnswerOf: what it answers, by the model.
-/
namespace Go.Proofs.YtopkidfbkhjaeaaGreatDoor
open Go.ChangeShapes Go.WideShapes Go.ChangeAt Go.RowKit Go.Sort
theorem ansC1 {c m : Int} {l : List Hdr} {a : Int} {src : ByteArray} (h : c ≠ 0) : ansC c m l a src = c := by unfold ansC; rw [if_pos h]
theorem ansC2 {c m : Int} {l : List Hdr} {a : Int} {src : ByteArray} (h : c = 0) (h2 : m ≠ 0) : ansC c m l a src = m := by unfold ansC; rw [if_neg (by simp [h]), if_pos h2]
theorem ansC3 {c m : Int} {l : List Hdr} {a : Int} {src : ByteArray} (h : c = 0) (h2 : m = 0) (h3 : wordS src = false) : ansC c m l a src = 5 := by unfold ansC; rw [if_neg (by simp [h]), if_neg (by simp [h2]), if_pos h3]
theorem ansC4 {c m : Int} {l : List Hdr} {a : Int} {src : ByteArray} (h : c = 0) (h2 : m = 0) (h3 : wordS src = true) (h4 : 20 < (ansL l a src).length) : ansC c m l a src = 2 := by unfold ansC; rw [if_neg (by simp [h]), if_neg (by simp [h2]), if_neg (by simp [h3]), if_pos h4]
theorem ansC5 {c m : Int} {l : List Hdr} {a : Int} {src : ByteArray} (h : c = 0) (h2 : m = 0) (h3 : wordS src = true) (h4 : ¬ 20 < (ansL l a src).length) : ansC c m l a src = 0 := by unfold ansC; rw [if_neg (by simp [h]), if_neg (by simp [h2]), if_neg (by simp [h3]), if_neg h4]
theorem ent_small {key : ByteArray} {st pins : Int} {hs : List Hdr} {bn tn : Nat} {t g l s e : Int} (h : entryC key st pins hs bn tn t g l s e = 0) : hs.length ≤ 20 ∧ ∀ (i : Nat) r, hs[i]? = some r → r.name.size ≤ 64 ∧ r.value.size ≤ 200 := by
  obtain ⟨_, _, _, z4, _⟩ := entryC_zero h
  obtain ⟨h20, hf⟩ := headsC_zero z4
  exact ⟨h20, fun i r hr => by obtain ⟨x1, x2, _⟩ := faultH_zero (hf i r hr); exact ⟨hword_max x1, x2⟩⟩
theorem ansL_len (l : List Hdr) (a : Int) (src : ByteArray) : (ansL l a src).length ≤ l.length + 2 := by
  unfold ansL
  have := setGo_le ⟨cacheN, src⟩ (setGo ⟨ageN, num.numT (a.tdiv 1000)⟩ false l)
  have := setGo_le ⟨ageN, num.numT (a.tdiv 1000)⟩ l
  omega
set_option maxRecDepth 100000 in
set_option maxHeartbeats 32000000 in
theorem specAnswer_any (w : World) (key : ByteArray) (st : Int) (ha : Option Addr) (hc : Nat) (ba : Option Addr) (bc : Nat) (t g l s e : Int) (b1 b2 : Bool) (ta : Option Addr) (tn tc : Nat) (pins : Int) (hs : List Hdr) (bs : List UInt8) (n : Int) (src : ByteArray) (hd : Bool) (hk : key.size ≤ maxLen) (hhl : hs.length ≤ 1048576) (hbl : bs.length ≤ 1048576) (htn : tn ≤ maxLen) (hi : HdsIn w ha hs) (hib : BIn w ba bs) :
    Calls Tryz.prog 38 #[.agg #[.string key, .int .i64 st, .slice ha hs.length hc, .slice ba bs.length bc, .int .i64 t, .int .i64 g, .int .i64 l, .int .i64 s, .int .i64 e, .bool b1, .bool b2, .slice ta tn tc, .int .i64 pins], .int .i64 n, .string src, .bool hd] w fun r w' => AnsRes (ansC (entryC key st pins hs bs.length tn t g l s e) (askM t g l s e n) hs (ageM t g n) src) (ansR (ansC (entryC key st pins hs bs.length tn t g l s e) (askM t g l s e n) hs (ageM t g n) src) st) (ansLs (ansC (entryC key st pins hs bs.length tn t g l s e) (askM t g l s e n) hs (ageM t g n) src) hs (ageM t g n) src) (relB (ansC (entryC key st pins hs bs.length tn t g l s e) (askM t g l s e n) hs (ageM t g n) src) hd bs) w w' r ∧ Below w.heap.size w w' := by
  obtain ⟨W, hW⟩ : ∃ W, W = ((w.alloc (.cells #[.string key, .int .i64 st, .slice ha hs.length hc, .slice ba bs.length bc, .int .i64 t, .int .i64 g, .int .i64 l, .int .i64 s, .int .i64 e, .bool b1, .bool b2, .slice ta tn tc, .int .i64 pins] 56)).alloc (.cells #[.int .i64 0, .int .i64 0, .slice none 0 0, .slice none 0 0] 31)) := ⟨_, rfl⟩
  have HW : Hid (W = ((w.alloc (.cells #[.string key, .int .i64 st, .slice ha hs.length hc, .slice ba bs.length bc, .int .i64 t, .int .i64 g, .int .i64 l, .int .i64 s, .int .i64 e, .bool b1, .bool b2, .slice ta tn tc, .int .i64 pins] 56)).alloc (.cells #[.int .i64 0, .int .i64 0, .slice none 0 0, .slice none 0 0] 31))) := hW
  have bW : Below w.heap.size w W := by rw [hW]; exact ((Below.refl _ _).alloc (Nat.le_refl _) _).alloc (by simp) _
  have KW : Hid (Below w.heap.size w W ∧ At w.heap.size (w.heap.size + 1) (Bx w.heap.size [.string key, .int .i64 st, .slice ha hs.length hc, .slice ba bs.length bc, .int .i64 t, .int .i64 g, .int .i64 l, .int .i64 s, .int .i64 e, .bool b1, .bool b2, .slice ta tn tc, .int .i64 pins]) W ∧ At (w.heap.size + 1) (w.heap.size + 1 + 1) (Bx (w.heap.size + 1) [.int .i64 0, .int .i64 0, .slice none 0 0, .slice none 0 0]) W) := ⟨bW, by rw [hW]; exact (Bx.new _ [.string key, .int .i64 st, .slice ha hs.length hc, .slice ba bs.length bc, .int .i64 t, .int .i64 g, .int .i64 l, .int .i64 s, .int .i64 e, .bool b1, .bool b2, .slice ta tn tc, .int .i64 pins] _).al _, by rw [hW]; exact Bx.newAt (by simp) [.int .i64 0, .int .i64 0, .slice none 0 0, .slice none 0 0] _⟩
  have CF : Hid (∀ X, Below w.heap.size w X → Calls Tryz.prog 57 #[.agg #[.string key, .int .i64 st, .slice ha hs.length hc, .slice ba bs.length bc, .int .i64 t, .int .i64 g, .int .i64 l, .int .i64 s, .int .i64 e, .bool b1, .bool b2, .slice ta tn tc, .int .i64 pins]] X fun r w' => r = .returned (.int .i64 (entryC key st pins hs bs.length tn t g l s e)) ∧ Below X.heap.size X w') := fun X hX => specEntry_any X key st ha hc ba bc t g l s e b1 b2 ta tc pins hs bs.length tn hk hhl (Nat.le_trans hbl (by unfold maxLen; omega)) htn (hi.keep hX)
  have CK : Hid (∀ X, At w.heap.size (w.heap.size + 1) (Bx w.heap.size [.string key, .int .i64 st, .slice ha hs.length hc, .slice ba bs.length bc, .int .i64 t, .int .i64 g, .int .i64 l, .int .i64 s, .int .i64 e, .bool b1, .bool b2, .slice ta tn tc, .int .i64 pins]) X → Calls Tryz.prog 78 #[.pointer (some ⟨w.heap.size, 4, none⟩), .int .i64 n] X fun r w' => r = .returned (.int .i64 (askM t g l s e n)) ∧ Below X.heap.size X w') := fun X h => l7AskE_any X w.heap.size t g l s e b1 b2 n (Bx.meta h)
  have CW : Hid (∀ X, Calls Tryz.prog 79 #[.string src] X fun r w' => r = .returned (.bool (wordS src)) ∧ w' = X) := fun X => specIsWord_any src X
  have CN : Hid (entryC key st pins hs bs.length tn t g l s e = 0 → askM t g l s e n = 0 → ∀ X, Below w.heap.size w X → At w.heap.size (w.heap.size + 1) (Bx w.heap.size [.string key, .int .i64 st, .slice ha hs.length hc, .slice ba bs.length bc, .int .i64 t, .int .i64 g, .int .i64 l, .int .i64 s, .int .i64 e, .bool b1, .bool b2, .slice ta tn tc, .int .i64 pins]) X → Calls Tryz.prog 80 #[.pointer (some ⟨w.heap.size, 0, none⟩), .int .i64 n, .string src, .bool hd] X fun r w' => (∃ ra rk rb rm rl, r = .returned (.agg #[.int .i64 st, .slice ra (ansL hs (ageM t g n) src).length rk, .slice rb rm rl]) ∧ At X.heap.size w'.heap.size (RR (ansL hs (ageM t g n) src) (bodyL hd bs) ra (ansL hs (ageM t g n) src).length rk rb rm rl) w') ∧ Below X.heap.size X w') := fun h1 h2 X hX h3 => by
    obtain ⟨h20, hz⟩ := ent_small h1
    exact (l13Answer_any X w.heap.size key st ha hc ba bc t g l s e b1 b2 ta tn tc pins hs bs n src hd h20 (fun i r hr => (hz i r hr).1) hbl h2 (hi.keep hX) (hib.keep hX) h3).mono fun r w' ⟨⟨ra, rk, rb, rl, q1, q2⟩, q3⟩ => ⟨⟨ra, rk, rb, _, rl, q1, q2⟩, q3⟩
  have GL : Hid (entryC key st pins hs bs.length tn t g l s e = 0 → (ansL hs (ageM t g n) src).length ≤ 22) := fun h => by have := ansL_len hs (ageM t g n) src; have := (ent_small h).1; omega
  clear hW bW hi hib hk hbl htn
  obtain ⟨Q, hQ⟩ : ∃ Q : World → Ending → Prop, Q = fun w' r => AnsRes (ansC (entryC key st pins hs bs.length tn t g l s e) (askM t g l s e n) hs (ageM t g n) src) (ansR (ansC (entryC key st pins hs bs.length tn t g l s e) (askM t g l s e n) hs (ageM t g n) src) st) (ansLs (ansC (entryC key st pins hs bs.length tn t g l s e) (askM t g l s e n) hs (ageM t g n) src) hs (ageM t g n) src) (relB (ansC (entryC key st pins hs bs.length tn t g l s e) (askM t g l s e n) hs (ageM t g n) src) hd bs) w w' r := ⟨_, rfl⟩
  have QB : Hid (∀ w' d, ansC (entryC key st pins hs bs.length tn t g l s e) (askM t g l s e n) hs (ageM t g n) src = d → d ≠ 0 → Q w' (.returned (.agg #[.int .i64 d, .int .i64 0, .slice none 0 0, .slice none 0 0]))) := fun w' d h1 h2 => by rw [hQ]; exact AnsRes.bad h1 h2
  have QG : Hid (ansC (entryC key st pins hs bs.length tn t g l s e) (askM t g l s e n) hs (ageM t g n) src = 0 → ∀ w' ra rn rk rb rm rl, At w.heap.size w'.heap.size (RR (ansL hs (ageM t g n) src) (bodyL hd bs) ra rn rk rb rm rl) w' → Q w' (.returned (.agg #[.int .i64 0, .int .i64 st, .slice ra rn rk, .slice rb rm rl]))) := fun h w' ra rn rk rb rm rl k => by rw [hQ]; exact AnsRes.good h k
  show Calls _ _ _ _ fun r w' => AnsRes (ansC (entryC key st pins hs bs.length tn t g l s e) (askM t g l s e n) hs (ageM t g n) src) (ansR (ansC (entryC key st pins hs bs.length tn t g l s e) (askM t g l s e n) hs (ageM t g n) src) st) (ansLs (ansC (entryC key st pins hs bs.length tn t g l s e) (askM t g l s e n) hs (ageM t g n) src) hs (ageM t g n) src) (relB (ansC (entryC key st pins hs bs.length tn t g l s e) (askM t g l s e n) hs (ageM t g n) src) hd bs) w w' r ∧ Below w.heap.size w w'
  refine Calls.mono (R := fun r w' => Q w' r ∧ Below w.heap.size w w') ?_ (fun r w' h => by rw [hQ] at h; exact h)
  clear hQ
  have C1' : Hid (entryC key st pins hs bs.length tn t g l s e ≠ 0 → ansC (entryC key st pins hs bs.length tn t g l s e) (askM t g l s e n) hs (ageM t g n) src = entryC key st pins hs bs.length tn t g l s e) := fun h => ansC1 h
  have C2' : Hid (entryC key st pins hs bs.length tn t g l s e = 0 → askM t g l s e n ≠ 0 → ansC (entryC key st pins hs bs.length tn t g l s e) (askM t g l s e n) hs (ageM t g n) src = askM t g l s e n) := fun h h2 => ansC2 h h2
  have C3' : Hid (entryC key st pins hs bs.length tn t g l s e = 0 → askM t g l s e n = 0 → wordS src = false → ansC (entryC key st pins hs bs.length tn t g l s e) (askM t g l s e n) hs (ageM t g n) src = 5) := fun h h2 h3 => ansC3 h h2 h3
  have C4' : Hid (entryC key st pins hs bs.length tn t g l s e = 0 → askM t g l s e n = 0 → wordS src = true → 20 < (ansL hs (ageM t g n) src).length → ansC (entryC key st pins hs bs.length tn t g l s e) (askM t g l s e n) hs (ageM t g n) src = 2) := fun h h2 h3 h4 => ansC4 h h2 h3 h4
  have C5' : Hid (entryC key st pins hs bs.length tn t g l s e = 0 → askM t g l s e n = 0 → wordS src = true → ¬ 20 < (ansL hs (ageM t g n) src).length → ansC (entryC key st pins hs bs.length tn t g l s e) (askM t g l s e n) hs (ageM t g n) src = 0) := fun h h2 h3 h4 => ansC5 h h2 h3 h4
  clear hhl
  generalize ansC (entryC key st pins hs bs.length tn t g l s e) (askM t g l s e n) hs (ageM t g n) src = ac at *
  generalize ansL hs (ageM t g n) src = M at *
  generalize bodyL hd bs = BL0 at *
  generalize entryC key st pins hs bs.length tn t g l s e = c at *
  generalize askM t g l s e n = m at *
  generalize wordS src = ws at *
  generalize hs.length = hl at *
  generalize bs.length = bn at *
  go_enter Tryz.func38, Tryz.ntmps38
  go_wp2_with fail
  rw [← HW.out]
  refine (CF.out W KW.out.1).mono ?_
  rintro r0 w1 ⟨rfl, hb1⟩
  have K1 : Hid (Below w.heap.size w w1 ∧ At w.heap.size (w.heap.size + 1) (Bx w.heap.size [.string key, .int .i64 st, .slice ha hl hc, .slice ba bn bc, .int .i64 t, .int .i64 g, .int .i64 l, .int .i64 s, .int .i64 e, .bool b1, .bool b2, .slice ta tn tc, .int .i64 pins]) w1 ∧ At (w.heap.size + 1) (w.heap.size + 1 + 1) (Bx (w.heap.size + 1) [.int .i64 0, .int .i64 0, .slice none 0 0, .slice none 0 0]) w1) := ⟨KW.out.1.trans (hb1.mono KW.out.1.size), KW.out.2.1.keep hb1, KW.out.2.2.keep hb1⟩
  clear hb1 KW HW CF
  by_cases hc0 : c = 0
  · have E0 : Hid (c = 0) := hc0
    subst hc0
    go_wp2_with fail
    refine (CK.out w1 K1.out.2.1).mono ?_
    rintro r0 w2 ⟨rfl, hb2⟩
    have K2 : Hid (Below w.heap.size w w2 ∧ At w.heap.size (w.heap.size + 1) (Bx w.heap.size [.string key, .int .i64 st, .slice ha hl hc, .slice ba bn bc, .int .i64 t, .int .i64 g, .int .i64 l, .int .i64 s, .int .i64 e, .bool b1, .bool b2, .slice ta tn tc, .int .i64 pins]) w2 ∧ At (w.heap.size + 1) (w.heap.size + 1 + 1) (Bx (w.heap.size + 1) [.int .i64 0, .int .i64 0, .slice none 0 0, .slice none 0 0]) w2) := ⟨K1.out.1.trans (hb2.mono K1.out.1.size), K1.out.2.1.keep hb2, K1.out.2.2.keep hb2⟩
    clear hb2 K1 CK
    by_cases hm0 : m = 0
    · subst hm0
      go_wp2_with fail
      refine (CW.out w2).mono ?_
      rintro r0 w3 ⟨rfl, rfl⟩
      clear CW
      cases ws
      · have HKB := K2.out.1
        have z0 := K2.out.2.2.val.1 0 _ rfl
        have z1 := K2.out.2.2.val.1 1 _ rfl
        have z2 := K2.out.2.2.val.1 2 _ rfl
        have z3 := K2.out.2.2.val.1 3 _ rfl
        have zf0 := K2.out.2.2.val.2 0
        have zf1 := K2.out.2.2.val.2 1
        have zf2 := K2.out.2.2.val.2 2
        have zf3 := K2.out.2.2.val.2 3
        have HB : Hid (Below w.heap.size w w3) := HKB
        clear HKB
        go_wp2_with fail
        have bb := HB.out
        exact bodyPost_ret (v := .agg #[.int .i64 5, .int .i64 0, .slice none 0 0, .slice none 0 0]) (by simp [results, Tryz.results38, go_sem, z0, z1, z2, z3]) rfl ⟨QB.out _ _ (C3'.out (by trivial) (by trivial) (by trivial)) (by decide), (((bb.setCell (by simp) _).setCell (by simp) _).setCell (by simp) _).setCell (by simp) _⟩
      · go_wp2_with fail
        refine (CN.out (by trivial) (by trivial) w3 K2.out.1 K2.out.2.1).mono ?_
        rintro r0 w4 ⟨⟨ra, rk, rb, rm, rl, rfl, c4⟩, hb4⟩
        obtain ⟨V, hV⟩ : ∃ V, V = w4.alloc (.cells #[.int .i64 st, .slice ra M.length rk, .slice rb rm rl] 29) := ⟨_, rfl⟩
        have HV : Hid (V = w4.alloc (.cells #[.int .i64 st, .slice ra M.length rk, .slice rb rm rl] 29)) := hV
        have aV : Below w4.heap.size w4 V := by rw [hV]; exact (Below.refl _ _).alloc (Nat.le_refl _) _
        have b4 := hb4.trans (aV.mono hb4.size)
        have K4 : Hid (Below w.heap.size w V ∧ At (w.heap.size + 1) (w.heap.size + 1 + 1) (Bx (w.heap.size + 1) [.int .i64 0, .int .i64 0, .slice none 0 0, .slice none 0 0]) V ∧ At w3.heap.size w4.heap.size (RR M BL0 ra M.length rk rb rm rl) V ∧ At w4.heap.size (w4.heap.size + 1) (Bx w4.heap.size [.int .i64 st, .slice ra M.length rk, .slice rb rm rl]) V ∧ w.heap.size + 1 + 1 ≤ w3.heap.size) := ⟨K2.out.1.trans (b4.mono K2.out.1.size), K2.out.2.2.keep b4, c4.keep aV, by rw [hV]; exact Bx.new _ _ _, K2.out.2.2.le⟩
        clear c4 hb4 aV b4 K2 CN hV
        have gl := GL.out (by trivial)
        have y0 := K4.out.2.2.2.1.val.1 0 _ rfl
        have y1 := K4.out.2.2.2.1.val.1 1 _ rfl
        have y2 := K4.out.2.2.2.1.val.1 2 _ rfl
        have z0 := K4.out.2.1.val.1 0 _ rfl
        have z1 := K4.out.2.1.val.1 1 _ rfl
        have z2 := K4.out.2.1.val.1 2 _ rfl
        have z3 := K4.out.2.1.val.1 3 _ rfl
        have zf0 := K4.out.2.1.val.2 0
        have zf1 := K4.out.2.1.val.2 1
        have zf2 := K4.out.2.1.val.2 2
        have zf3 := K4.out.2.1.val.2 3
        by_cases hgt : 20 < M.length
        · have gi : (20 : Int) < (M.length : Int) := by omega
          have HC : Hid (ac = 2) := C4'.out (by trivial) (by trivial) (by trivial) hgt
          have HB : Hid (Below w.heap.size w V) := K4.out.1
          clear hgt gl C1' C2' C3' C4' C5' K4 GL QG
          generalize M.length = mn at *
          rw [HV.out] at y0 y1 y2 z0 z1 z2 z3 zf0 zf1 zf2 zf3
          go_wp2_with fail
          rw [← HV.out]
          have bb := HB.out
          rw [← HV.out] at z0 z1 z2 z3
          exact bodyPost_ret (v := .agg #[.int .i64 2, .int .i64 0, .slice none 0 0, .slice none 0 0]) (by simp [results, Tryz.results38, go_sem, z0, z1, z2, z3]) rfl ⟨QB.out _ _ HC.out (by decide), (((bb.setCell (by simp) _).setCell (by simp) _).setCell (by simp) _).setCell (by simp) _⟩
        · have gi : ¬ (20 : Int) < (M.length : Int) := by omega
          have HC := hidL (QG.out (C5'.out (by trivial) (by trivial) (by trivial) hgt))
          clear hgt gl C1' C2' C3' C4' C5' GL QG
          generalize hmn : M.length = mn at *
          clear hmn
          rw [HV.out] at y0 y1 y2 z0 z1 z2 z3 zf0 zf1 zf2 zf3
          go_wp2_with fail
          rw [← HV.out]
          rw [← HV.out] at z0 z1 z2 z3
          have HF : Hid (At w.heap.size ((((V.setCell ⟨w.heap.size + 1, 0, none⟩ (.int .i64 0)).setCell ⟨w.heap.size + 1, 1, none⟩ (.int .i64 st)).setCell ⟨w.heap.size + 1, 2, none⟩ (.slice ra mn rk)).setCell ⟨w.heap.size + 1, 3, none⟩ (.slice rb rm rl)).heap.size (RR M BL0 ra mn rk rb rm rl) ((((V.setCell ⟨w.heap.size + 1, 0, none⟩ (.int .i64 0)).setCell ⟨w.heap.size + 1, 1, none⟩ (.int .i64 st)).setCell ⟨w.heap.size + 1, 2, none⟩ (.slice ra mn rk)).setCell ⟨w.heap.size + 1, 3, none⟩ (.slice rb rm rl)) ∧ Below w.heap.size w ((((V.setCell ⟨w.heap.size + 1, 0, none⟩ (.int .i64 0)).setCell ⟨w.heap.size + 1, 1, none⟩ (.int .i64 st)).setCell ⟨w.heap.size + 1, 2, none⟩ (.slice ra mn rk)).setCell ⟨w.heap.size + 1, 3, none⟩ (.slice rb rm rl))) := by
            have c := K4.out.2.2.1
            have hy := K4.out.2.2.2.2
            have bb := K4.out.1
            have c2 : At _ _ (RR M BL0 ra mn rk rb rm rl) ((((V.setCell ⟨w.heap.size + 1, 0, none⟩ (.int .i64 0)).setCell ⟨w.heap.size + 1, 1, none⟩ (.int .i64 st)).setCell ⟨w.heap.size + 1, 2, none⟩ (.slice ra mn rk)).setCell ⟨w.heap.size + 1, 3, none⟩ (.slice rb rm rl)) := (((c.set _ (.inl (by omega))).set _ (.inl (by omega))).set _ (.inl (by omega))).set _ (.inl (by omega))
            exact ⟨⟨Nat.le_refl _, RR.dep _ _ _ _ _ _ _ _ _ _, c2.val.1, c2.val.2.1, c2.val.2.2.1.wide (by omega) c2.le, c2.val.2.2.2.1.wide (by omega) c2.le, c2.val.2.2.2.2⟩, (((bb.setCell (by simp) _).setCell (by simp) _).setCell (by simp) _).setCell (by simp) _⟩
          exact bodyPost_ret (v := .agg #[.int .i64 0, .int .i64 st, .slice ra mn rk, .slice rb rm rl]) (by simp [results, Tryz.results38, go_sem, z0, z1, z2, z3]) rfl ⟨HC.out _ _ _ _ _ _ _ HF.out.1, HF.out.2⟩
    · have HKB := K2.out.1
      have z0 := K2.out.2.2.val.1 0 _ rfl
      have z1 := K2.out.2.2.val.1 1 _ rfl
      have z2 := K2.out.2.2.val.1 2 _ rfl
      have z3 := K2.out.2.2.val.1 3 _ rfl
      have zf0 := K2.out.2.2.val.2 0
      have zf1 := K2.out.2.2.val.2 1
      have zf2 := K2.out.2.2.val.2 2
      have zf3 := K2.out.2.2.val.2 3
      have HB : Hid (Below w.heap.size w w2) := HKB
      clear HKB
      go_wp2_with fail
      have bb := HB.out
      exact bodyPost_ret (v := .agg #[.int .i64 m, .int .i64 0, .slice none 0 0, .slice none 0 0]) (by simp [results, Tryz.results38, go_sem, z0, z1, z2, z3]) rfl ⟨QB.out _ _ (C2'.out (by trivial) hm0) hm0, (((bb.setCell (by simp) _).setCell (by simp) _).setCell (by simp) _).setCell (by simp) _⟩
  · have HKB := K1.out.1
    have z0 := K1.out.2.2.val.1 0 _ rfl
    have z1 := K1.out.2.2.val.1 1 _ rfl
    have z2 := K1.out.2.2.val.1 2 _ rfl
    have z3 := K1.out.2.2.val.1 3 _ rfl
    have zf0 := K1.out.2.2.val.2 0
    have zf1 := K1.out.2.2.val.2 1
    have zf2 := K1.out.2.2.val.2 2
    have zf3 := K1.out.2.2.val.2 3
    have HB : Hid (Below w.heap.size w w1) := HKB
    clear HKB
    go_wp2_with fail
    have bb := HB.out
    exact bodyPost_ret (v := .agg #[.int .i64 c, .int .i64 0, .slice none 0 0, .slice none 0 0]) (by simp [results, Tryz.results38, go_sem, z0, z1, z2, z3]) rfl ⟨QB.out _ _ (C1'.out hc0) hc0, (((bb.setCell (by simp) _).setCell (by simp) _).setCell (by simp) _).setCell (by simp) _⟩
end Go.Proofs.YtopkidfbkhjaeaaGreatDoor
/-
  Is it a key? The program's answer.
-/
namespace Go.Proofs.YtopkidfbkhjaeaaGreatDoor
open Go.ChangeShapes Go.WideShapes Go.ChangeAt Go.RowKit Go.Sort
set_option maxHeartbeats 2000000 in
theorem isKey_one (key : ByteArray) (b : Bool) (hb : decide (1 ≤ key.size ∧ key.size ≤ 500) = b) (w : World) : Calls Tryz.prog 73 #[.string key] w fun r w' => r = .returned (.bool b) ∧ w' = w := by
  by_cases c1 : key.size < 1
  · have e : b = false := by rw [← hb]; simp; omega
    subst e
    clear hb
    go_enter Tryz.func73, Tryz.ntmps73
    go_wp2_with fail
    go_ret
    exact ⟨rfl, rfl⟩
  · by_cases c2 : 500 < key.size
    · have e : b = false := by rw [← hb]; simp; omega
      subst e
      clear hb
      go_enter Tryz.func73, Tryz.ntmps73
      go_wp2_with fail
      go_ret
      have d : decide ((key.size : Int) ≤ 500) = false := by simp; omega
      exact ⟨by simp [d], rfl⟩
    · have e : b = true := by rw [← hb]; simp; omega
      subst e
      clear hb
      go_enter Tryz.func73, Tryz.ntmps73
      go_wp2_with fail
      go_ret
      have d : decide ((key.size : Int) ≤ 500) = true := by simp; omega
      exact ⟨by simp [d], rfl⟩
end Go.Proofs.YtopkidfbkhjaeaaGreatDoor
/-
  Is it an entry? The program's answer.
-/
namespace Go.Proofs.YtopkidfbkhjaeaaGreatDoor
open Go.ChangeShapes Go.WideShapes Go.ChangeAt Go.RowKit Go.Sort
set_option maxHeartbeats 8000000 in
theorem implEntry_any (w : World) (key : ByteArray) (st : Int) (ha : Option Addr) (hc : Nat) (ba : Option Addr) (bc : Nat) (t g l s e : Int) (b1 b2 : Bool) (ta : Option Addr) (tc : Nat) (pins : Int) (hs : List Hdr) (bn tn : Nat) (hk : key.size ≤ maxLen) (hhl : hs.length ≤ 1048576) (hbn : bn ≤ maxLen) (htn : tn ≤ maxLen) (hset : SetIs w) (hH : HdsIn w ha hs) :
    Calls Tryz.prog 64 #[.agg #[.string key, .int .i64 st, .slice ha hs.length hc, .slice ba bn bc, .int .i64 t, .int .i64 g, .int .i64 l, .int .i64 s, .int .i64 e, .bool b1, .bool b2, .slice ta tn tc, .int .i64 pins]] w fun r w' => r = .returned (.int .i64 (entryC key st pins hs bn tn t g l s e)) ∧ Below w.heap.size w w' := by
  have HK : Hid (Below w.heap.size w (w.alloc (.cells #[.string key, .int .i64 st, .slice ha hs.length hc, .slice ba bn bc, .int .i64 t, .int .i64 g, .int .i64 l, .int .i64 s, .int .i64 e, .bool b1, .bool b2, .slice ta tn tc, .int .i64 pins] 56)) ∧ E13 (w.alloc (.cells #[.string key, .int .i64 st, .slice ha hs.length hc, .slice ba bn bc, .int .i64 t, .int .i64 g, .int .i64 l, .int .i64 s, .int .i64 e, .bool b1, .bool b2, .slice ta tn tc, .int .i64 pins] 56)) w.heap.size (.string key) (.int .i64 st) (.slice ha hs.length hc) (.slice ba bn bc) (.int .i64 t) (.int .i64 g) (.int .i64 l) (.int .i64 s) (.int .i64 e) (.bool b1) (.bool b2) (.slice ta tn tc) (.int .i64 pins)) := ⟨(Below.refl _ _).alloc (Nat.le_refl _) _, E13.new w _ _ _ _ _ _ _ _ _ _ _ _ _ _⟩
  have HI : Hid (∀ w, Calls Tryz.prog 111 #[.int .i64 st] w fun r w' => r = .returned (.bool (stB st)) ∧ w' = w) := mayKeep_any st
  have HH : Hid (∀ X, Below w.heap.size w X → Calls Tryz.prog 112 #[.slice ha hs.length hc] X fun e w' => e = .returned (.int .i64 (headsC hs)) ∧ Below X.heap.size X w') := fun X hb => implHFault_any X ha hc hs hhl (hset.below hb) (hH.keep hb)
  have HM : Hid (∀ X, Calls Tryz.prog 113 #[.agg #[.int .i64 t, .int .i64 g, .int .i64 l, .int .i64 s, .int .i64 e, .bool b1, .bool b2]] X fun r w' => r = .returned (.int .i64 (metaC t g l s e)) ∧ Below X.heap.size X w') := fun X => implMeta_any t g l s e b1 b2 X
  obtain ⟨Z, hZ⟩ : ∃ Z, entryC key st pins hs bn tn t g l s e = Z := ⟨_, rfl⟩
  rw [hZ]
  unfold entryC at hZ
  obtain ⟨hcd, hhc⟩ : ∃ x, headsC hs = x := ⟨_, rfl⟩
  obtain ⟨mcd, hmc⟩ : ∃ x, metaC t g l s e = x := ⟨_, rfl⟩
  obtain ⟨sb, hsb⟩ : ∃ x, stB st = x := ⟨_, rfl⟩
  rw [hhc] at HH hZ
  rw [hmc] at HM hZ
  rw [hsb] at HI hZ
  clear hhc hmc hsb hH hhl hset
  generalize hs.length = hl at *
  unfold maxLen at hk hbn htn
  have HZ : Hid (_ = Z) := hZ
  clear hZ
  by_cases c1 : key.size < 1
  · have HIK : Hid (∀ w, Calls Tryz.prog 73 #[.string key] w fun r w' => r = .returned (.bool false) ∧ w' = w) := fun w => isKey_one key false (by simp; omega) w
    have HR := HZ.out
    rw [if_pos (.inl c1)] at HR
    rw [← HR]
    clear HR HZ
    go_enter Tryz.func64, Tryz.ntmps64
    go_wp2_with fail
    refine (HIK.out _).mono ?_
    rintro r wk ⟨rfl, rfl⟩
    go_wp2_with fail
    go_ret
    exact ⟨rfl, HK.out.1⟩
  by_cases c2 : 500 < key.size
  · have HIK : Hid (∀ w, Calls Tryz.prog 73 #[.string key] w fun r w' => r = .returned (.bool false) ∧ w' = w) := fun w => isKey_one key false (by simp; omega) w
    have HR := HZ.out
    rw [if_pos (.inr c2)] at HR
    rw [← HR]
    clear HR HZ
    go_enter Tryz.func64, Tryz.ntmps64
    go_wp2_with fail
    refine (HIK.out _).mono ?_
    rintro r wk ⟨rfl, rfl⟩
    go_wp2_with fail
    go_ret
    exact ⟨rfl, HK.out.1⟩
  have HIK : Hid (∀ w, Calls Tryz.prog 73 #[.string key] w fun r w' => r = .returned (.bool true) ∧ w' = w) := fun w => isKey_one key true (by simp; omega) w
  rw [if_neg (by omega)] at HZ
  cases sb
  · have HR := HZ.out
    rw [if_pos (Bool.false_and _)] at HR
    rw [← HR]
    clear HR HZ
    go_enter Tryz.func64, Tryz.ntmps64
    go_wp2_with fail
    refine (HIK.out _).mono ?_
    rintro r wk ⟨rfl, rfl⟩
    go_wp2_with fail
    refine (HI.out _).mono ?_
    rintro r w1 ⟨rfl, rfl⟩
    go_wp2_with fail
    go_ret
    exact ⟨rfl, HK.out.1⟩
  rw [Bool.true_and] at HZ
  by_cases p1 : pins < 0
  · have HR := HZ.out
    rw [if_pos (by unfold pinB; simp; omega)] at HR
    rw [← HR]
    clear HR HZ
    go_enter Tryz.func64, Tryz.ntmps64
    go_wp2_with fail
    refine (HIK.out _).mono ?_
    rintro r wk ⟨rfl, rfl⟩
    go_wp2_with fail
    refine (HI.out _).mono ?_
    rintro r w1 ⟨rfl, rfl⟩
    have q12 := HK.out.2.c12
    go_wp2_with fail
    go_ret
    exact ⟨rfl, HK.out.1⟩
  by_cases p2 : 20 < pins
  · have HR := HZ.out
    rw [if_pos (by unfold pinB; simp; omega)] at HR
    rw [← HR]
    clear HR HZ
    go_enter Tryz.func64, Tryz.ntmps64
    go_wp2_with fail
    refine (HIK.out _).mono ?_
    rintro r wk ⟨rfl, rfl⟩
    go_wp2_with fail
    refine (HI.out _).mono ?_
    rintro r w1 ⟨rfl, rfl⟩
    have q12 := HK.out.2.c12
    go_wp2_with fail
    go_ret
    exact ⟨rfl, HK.out.1⟩
  rw [if_neg (by unfold pinB; simp; omega)] at HZ
  by_cases c3 : hcd ≠ 0
  · have HR := HZ.out
    rw [if_pos c3] at HR
    rw [← HR]
    clear HR HZ
    go_enter Tryz.func64, Tryz.ntmps64
    go_wp2_with fail
    refine (HIK.out _).mono ?_
    rintro r wk ⟨rfl, rfl⟩
    go_wp2_with fail
    refine (HI.out _).mono ?_
    rintro r w1 ⟨rfl, rfl⟩
    have q12 := HK.out.2.c12
    have q2 := HK.out.2.c2
    go_wp2_with fail
    refine (HH.out _ HK.out.1).mono ?_
    rintro r w2 ⟨rfl, hb2⟩
    have HB2 : Hid (Below w.heap.size w w2) := HK.out.1.trans (hb2.mono HK.out.1.size)
    clear hb2
    go_wp2_with fail
    go_ret
    exact ⟨rfl, HB2.out⟩
  rw [if_neg c3] at HZ
  have c3' : hcd = 0 := by omega
  subst c3'
  clear c3
  by_cases c4 : 2000 < bn
  · have HR := HZ.out
    rw [if_pos (.inl c4)] at HR
    rw [← HR]
    clear HR HZ
    go_enter Tryz.func64, Tryz.ntmps64
    go_wp2_with fail
    refine (HIK.out _).mono ?_
    rintro r wk ⟨rfl, rfl⟩
    go_wp2_with fail
    refine (HI.out _).mono ?_
    rintro r w1 ⟨rfl, rfl⟩
    have q12 := HK.out.2.c12
    have q2 := HK.out.2.c2
    go_wp2_with fail
    refine (HH.out _ HK.out.1).mono ?_
    rintro r w2 ⟨rfl, hb2⟩
    have HK2 : Hid (Below w.heap.size w w2 ∧ E13 w2 w.heap.size (.string key) (.int .i64 st) (.slice ha hl hc) (.slice ba bn bc) (.int .i64 t) (.int .i64 g) (.int .i64 l) (.int .i64 s) (.int .i64 e) (.bool b1) (.bool b2) (.slice ta tn tc) (.int .i64 pins)) := ⟨HK.out.1.trans (hb2.mono HK.out.1.size), HK.out.2.keep hb2⟩
    clear hb2
    have k3 := HK2.out.2.c3
    have k4 := HK2.out.2.c4
    have k5 := HK2.out.2.c5
    have k6 := HK2.out.2.c6
    have k7 := HK2.out.2.c7
    have k8 := HK2.out.2.c8
    have k9 := HK2.out.2.c9
    have k10 := HK2.out.2.c10
    have k11 := HK2.out.2.c11
    go_wp2_with fail
    go_ret
    exact ⟨rfl, HK2.out.1⟩
  by_cases c5 : 10 < tn
  · have HR := HZ.out
    rw [if_pos (.inr c5)] at HR
    rw [← HR]
    clear HR HZ
    go_enter Tryz.func64, Tryz.ntmps64
    go_wp2_with fail
    refine (HIK.out _).mono ?_
    rintro r wk ⟨rfl, rfl⟩
    go_wp2_with fail
    refine (HI.out _).mono ?_
    rintro r w1 ⟨rfl, rfl⟩
    have q12 := HK.out.2.c12
    have q2 := HK.out.2.c2
    go_wp2_with fail
    refine (HH.out _ HK.out.1).mono ?_
    rintro r w2 ⟨rfl, hb2⟩
    have HK2 : Hid (Below w.heap.size w w2 ∧ E13 w2 w.heap.size (.string key) (.int .i64 st) (.slice ha hl hc) (.slice ba bn bc) (.int .i64 t) (.int .i64 g) (.int .i64 l) (.int .i64 s) (.int .i64 e) (.bool b1) (.bool b2) (.slice ta tn tc) (.int .i64 pins)) := ⟨HK.out.1.trans (hb2.mono HK.out.1.size), HK.out.2.keep hb2⟩
    clear hb2
    have k3 := HK2.out.2.c3
    have k4 := HK2.out.2.c4
    have k5 := HK2.out.2.c5
    have k6 := HK2.out.2.c6
    have k7 := HK2.out.2.c7
    have k8 := HK2.out.2.c8
    have k9 := HK2.out.2.c9
    have k10 := HK2.out.2.c10
    have k11 := HK2.out.2.c11
    go_wp2_with fail
    go_ret
    exact ⟨rfl, HK2.out.1⟩
  rw [if_neg (by omega)] at HZ
  · rw [← HZ.out]
    clear HZ
    go_enter Tryz.func64, Tryz.ntmps64
    go_wp2_with fail
    refine (HIK.out _).mono ?_
    rintro r wk ⟨rfl, rfl⟩
    go_wp2_with fail
    refine (HI.out _).mono ?_
    rintro r w1 ⟨rfl, rfl⟩
    have q12 := HK.out.2.c12
    have q2 := HK.out.2.c2
    go_wp2_with fail
    refine (HH.out _ HK.out.1).mono ?_
    rintro r w2 ⟨rfl, hb2⟩
    have HK2 : Hid (Below w.heap.size w w2 ∧ E13 w2 w.heap.size (.string key) (.int .i64 st) (.slice ha hl hc) (.slice ba bn bc) (.int .i64 t) (.int .i64 g) (.int .i64 l) (.int .i64 s) (.int .i64 e) (.bool b1) (.bool b2) (.slice ta tn tc) (.int .i64 pins)) := ⟨HK.out.1.trans (hb2.mono HK.out.1.size), HK.out.2.keep hb2⟩
    clear hb2
    have k3 := HK2.out.2.c3
    have k4 := HK2.out.2.c4
    have k5 := HK2.out.2.c5
    have k6 := HK2.out.2.c6
    have k7 := HK2.out.2.c7
    have k8 := HK2.out.2.c8
    have k9 := HK2.out.2.c9
    have k10 := HK2.out.2.c10
    have k11 := HK2.out.2.c11
    go_wp2_with fail
    refine (HM.out _).mono ?_
    rintro r w3 ⟨rfl, hb3⟩
    have HB3 : Hid (Below w.heap.size w w3) := HK2.out.1.trans (hb3.mono HK2.out.1.size)
    clear hb3
    go_wp2_with fail
    go_ret
    exact ⟨rfl, HB3.out⟩
end Go.Proofs.YtopkidfbkhjaeaaGreatDoor
/-
  AnswerOf: what it answers, by the program.
-/
namespace Go.Proofs.YtopkidfbkhjaeaaGreatDoor
open Go.ChangeShapes Go.WideShapes Go.ChangeAt Go.RowKit Go.Sort
set_option maxRecDepth 100000 in
set_option maxHeartbeats 8000000 in
theorem withAge_any (w : World) (a : Option Addr) (cap : Nat) (l : List Hdr) (n : Int) (src : ByteArray) (n0 : 0 ≤ n) (n1 : n ≤ 1000000000000000) (h20 : l.length ≤ 20) (hz : ∀ (i : Nat) r, l[i]? = some r → r.name.size ≤ 64 ∧ r.value.size ≤ 200) (hsrc : src.size ≤ 1048576) (hpw : num.PowIs w) (hi : HdsIn w a l) :
    Calls Tryz.prog 83 #[.slice a l.length cap, .int .i64 n, .string src] w fun r w' => (∃ va vn vc, r = .returned (.slice va vn vc) ∧ At w.heap.size w'.heap.size (HLn va vn vc (ansL l n src)) w') ∧ Below w.heap.size w w' := by
  have td : 0 ≤ n.tdiv 1000 ∧ n.tdiv 1000 ≤ 1000000000000000 := by
    rw [Int.tdiv_eq_ediv_of_nonneg n0]
    omega
  have hns := numT_len td.1 td.2
  have CN : Hid (Calls Tryz.prog 134 #[.int .i64 (n.tdiv 1000)] w fun r w' => r = .returned (.agg #[.int .i64 0, .string (num.numT (n.tdiv 1000))]) ∧ Below w.heap.size w w') := num.implNum_any _ w td.1 td.2 hpw
  have CO1 : Hid (∀ X, Calls Tryz.prog 66 #[.string ageN, .string (num.numT (n.tdiv 1000))] X fun r w' => r = .returned (.agg #[.string ageN, .string (num.numT (n.tdiv 1000))]) ∧ Below X.heap.size X w') := fun X => lineOf_any _ _ X (by decide) (by omega)
  have CO2 : Hid (∀ X, Calls Tryz.prog 66 #[.string cacheN, .string src] X fun r w' => r = .returned (.agg #[.string cacheN, .string src]) ∧ Below X.heap.size X w') := fun X => lineOf_any _ _ X (by decide) hsrc
  have CW1 : Hid (∀ X, Below w.heap.size w X → Calls Tryz.prog 96 #[.slice a l.length cap, .agg #[.string ageN, .string (num.numT (n.tdiv 1000))]] X fun r w' => (∃ va vn vc, r = .returned (.slice va vn vc) ∧ At X.heap.size w'.heap.size (HLn va vn vc (setGo ⟨ageN, num.numT (n.tdiv 1000)⟩ false l)) w') ∧ Below X.heap.size X w') := fun X hX => (withLine_any X a cap l ⟨ageN, _⟩ h20 (by omega) hz (show ageN.size ≤ 64 by decide) (hi.keep hX)).mono fun r w' ⟨⟨v, h1, h2⟩, h3⟩ => by
    obtain ⟨va, vc, rfl, _⟩ := row_form h2
    exact ⟨⟨va, _, vc, h1, HLn.of (RowH.at h2)⟩, h3⟩
  have CW2 : Hid (∀ X lo hi' va vn vc, At lo hi' (HLn va vn vc (setGo ⟨ageN, num.numT (n.tdiv 1000)⟩ false l)) X → Calls Tryz.prog 96 #[.slice va vn vc, .agg #[.string cacheN, .string src]] X fun r w' => (∃ va vn vc, r = .returned (.slice va vn vc) ∧ At X.heap.size w'.heap.size (HLn va vn vc (ansL l n src)) w') ∧ Below X.heap.size X w') := fun X lo hi' va vn vc c => by
    have e1 := c.val.1
    subst e1
    refine (withLine_any (m := 21) X va vc _ ⟨cacheN, src⟩ (by have := setGo_le ⟨ageN, num.numT (n.tdiv 1000)⟩ l; omega) (by omega) (fun i r hr => ?_) (show cacheN.size ≤ 64 by decide) (c.val.2.in rfl).2).mono fun r w' ⟨⟨v, h1, h2⟩, h3⟩ => by
      obtain ⟨va, vc, rfl, _⟩ := row_form h2
      exact ⟨⟨va, _, vc, h1, HLn.of (RowH.at h2)⟩, h3⟩
    rcases setGo_sub _ _ _ _ (List.mem_of_getElem? hr) with q | q
    · subst q; exact ⟨show ageN.size ≤ 64 by decide, show (num.numT (n.tdiv 1000)).size ≤ 200 by omega⟩
    · obtain ⟨j, hj⟩ := List.mem_iff_getElem?.1 q
      exact hz j r hj
  have hf := f_field_text
  have e0 : IntKind.i64.wrap (n.tdiv 1000) = n.tdiv 1000 := by
    unfold IntKind.wrap; simp [IntKind.signed, IntKind.bits]; omega
  clear hz h20 hpw hi hsrc hns n1
  generalize ansL l n src = M at *
  generalize setGo ⟨ageN, num.numT (n.tdiv 1000)⟩ false l = M1 at *
  have e1 : n.tdiv 1000 = n / 1000 := Int.tdiv_eq_ediv_of_nonneg n0
  rw [e1] at CN CO1 CW1 e0 td
  generalize hq : n / 1000 = q at *
  generalize num.numT q = T at *
  generalize l.length = ln at *
  go_enter Tryz.func83, Tryz.ntmps83
  go_wp2_with fail
  refine CN.out.mono ?_
  rintro r w1 ⟨rfl, hb1⟩
  have K1 : Hid (Below w.heap.size w w1) := hb1
  clear hb1 CN
  go_wp2_with fail
  refine (CO1.out w1).mono ?_
  rintro r w2 ⟨rfl, hb2⟩
  have K2 : Hid (Below w.heap.size w w2) := K1.out.trans (hb2.mono K1.out.size)
  clear hb2 K1 CO1
  go_wp2_with fail
  refine (CW1.out w2 K2.out).mono ?_
  rintro r w3 ⟨⟨va, vn, vc, rfl, c3⟩, hb3⟩
  have K3 : Hid (Below w.heap.size w w3 ∧ At w2.heap.size w3.heap.size (HLn va vn vc M1) w3) := ⟨K2.out.trans (hb3.mono K2.out.size), c3⟩
  clear c3 hb3 K2 CW1
  go_wp2_with fail
  refine (CO2.out w3).mono ?_
  rintro r w4 ⟨rfl, hb4⟩
  have K4 : Hid (Below w.heap.size w w4 ∧ At w2.heap.size w3.heap.size (HLn va vn vc M1) w4) := ⟨K3.out.1.trans (hb4.mono K3.out.1.size), K3.out.2.keep hb4⟩
  clear hb4 K3 CO2
  go_wp2_with fail
  refine (CW2.out w4 _ _ va vn vc K4.out.2).mono ?_
  rintro r w5 ⟨⟨ua, un, uc, rfl, c5⟩, hb5⟩
  have K5 : Hid (Below w.heap.size w w5 ∧ At w.heap.size w5.heap.size (HLn ua un uc M) w5) := ⟨K4.out.1.trans (hb5.mono K4.out.1.size), c5.le, fun X X' h1 h2 hc k => ⟨k.1, HL.dep _ _ _ _ X X' h1 h2 hc k.2⟩, c5.val.1, c5.val.2.wide K4.out.1.size (Nat.le_refl _)⟩
  clear c5 hb5 K4 CW2
  go_wp2_with fail
  go_ret
  exact ⟨⟨ua, un, uc, rfl, K5.out.2⟩, K5.out.1⟩
set_option maxRecDepth 100000 in
set_option maxHeartbeats 32000000 in
theorem implAnswer_any (w : World) (key : ByteArray) (st : Int) (ha : Option Addr) (hc : Nat) (ba : Option Addr) (bc : Nat) (t g l s e : Int) (b1 b2 : Bool) (ta : Option Addr) (tn tc : Nat) (pins : Int) (hs : List Hdr) (bs : List UInt8) (n : Int) (src : ByteArray) (hd : Bool) (hk : key.size ≤ maxLen) (hhl : hs.length ≤ 1048576) (hbl : bs.length ≤ 1048576) (htn : tn ≤ maxLen) (hset : SetIs w) (hpw : num.PowIs w) (hi : HdsIn w ha hs) (hib : BIn w ba bs) :
    Calls Tryz.prog 39 #[.agg #[.string key, .int .i64 st, .slice ha hs.length hc, .slice ba bs.length bc, .int .i64 t, .int .i64 g, .int .i64 l, .int .i64 s, .int .i64 e, .bool b1, .bool b2, .slice ta tn tc, .int .i64 pins], .int .i64 n, .string src, .bool hd] w fun r w' => AnsRes (ansC (entryC key st pins hs bs.length tn t g l s e) (askM t g l s e n) hs (ageM t g n) src) (ansR (ansC (entryC key st pins hs bs.length tn t g l s e) (askM t g l s e n) hs (ageM t g n) src) st) (ansLs (ansC (entryC key st pins hs bs.length tn t g l s e) (askM t g l s e n) hs (ageM t g n) src) hs (ageM t g n) src) (relB (ansC (entryC key st pins hs bs.length tn t g l s e) (askM t g l s e n) hs (ageM t g n) src) hd bs) w w' r ∧ Below w.heap.size w w' := by
  obtain ⟨W, hW⟩ : ∃ W, W = ((w.alloc (.cells #[.string key, .int .i64 st, .slice ha hs.length hc, .slice ba bs.length bc, .int .i64 t, .int .i64 g, .int .i64 l, .int .i64 s, .int .i64 e, .bool b1, .bool b2, .slice ta tn tc, .int .i64 pins] 56)).alloc (.cells #[.int .i64 0, .int .i64 0, .slice none 0 0, .slice none 0 0] 31)) := ⟨_, rfl⟩
  have HW : Hid (W = ((w.alloc (.cells #[.string key, .int .i64 st, .slice ha hs.length hc, .slice ba bs.length bc, .int .i64 t, .int .i64 g, .int .i64 l, .int .i64 s, .int .i64 e, .bool b1, .bool b2, .slice ta tn tc, .int .i64 pins] 56)).alloc (.cells #[.int .i64 0, .int .i64 0, .slice none 0 0, .slice none 0 0] 31))) := hW
  have bW : Below w.heap.size w W := by rw [hW]; exact ((Below.refl _ _).alloc (Nat.le_refl _) _).alloc (by simp) _
  have KW : Hid (Below w.heap.size w W ∧ At w.heap.size (w.heap.size + 1) (Bx w.heap.size [.string key, .int .i64 st, .slice ha hs.length hc, .slice ba bs.length bc, .int .i64 t, .int .i64 g, .int .i64 l, .int .i64 s, .int .i64 e, .bool b1, .bool b2, .slice ta tn tc, .int .i64 pins]) W ∧ At (w.heap.size + 1) (w.heap.size + 1 + 1) (Bx (w.heap.size + 1) [.int .i64 0, .int .i64 0, .slice none 0 0, .slice none 0 0]) W) := ⟨bW, by rw [hW]; exact (Bx.new _ [.string key, .int .i64 st, .slice ha hs.length hc, .slice ba bs.length bc, .int .i64 t, .int .i64 g, .int .i64 l, .int .i64 s, .int .i64 e, .bool b1, .bool b2, .slice ta tn tc, .int .i64 pins] _).al _, by rw [hW]; exact Bx.newAt (by simp) [.int .i64 0, .int .i64 0, .slice none 0 0, .slice none 0 0] _⟩
  have CF : Hid (∀ X, Below w.heap.size w X → Calls Tryz.prog 64 #[.agg #[.string key, .int .i64 st, .slice ha hs.length hc, .slice ba bs.length bc, .int .i64 t, .int .i64 g, .int .i64 l, .int .i64 s, .int .i64 e, .bool b1, .bool b2, .slice ta tn tc, .int .i64 pins]] X fun r w' => r = .returned (.int .i64 (entryC key st pins hs bs.length tn t g l s e)) ∧ Below X.heap.size X w') := fun X hX => implEntry_any X key st ha hc ba bc t g l s e b1 b2 ta tc pins hs bs.length tn hk hhl (Nat.le_trans hbl (by unfold maxLen; omega)) htn (hset.below hX) (hi.keep hX)
  have CK : Hid (∀ X, Calls Tryz.prog 81 #[.agg #[.int .i64 t, .int .i64 g, .int .i64 l, .int .i64 s, .int .i64 e, .bool b1, .bool b2], .int .i64 n] X fun r w' => r = .returned (.agg #[.int .i64 (askM t g l s e n), .int .i64 (ageA t g l s e n)]) ∧ Below X.heap.size X w') := fun X => implAge_any t g l s e b1 b2 n X
  have CW : Hid (∀ X, Below w.heap.size w X → Calls Tryz.prog 82 #[.string src] X fun r w' => r = .returned (.bool (wordS src)) ∧ Below X.heap.size X w') := fun X hX => implIsWord_set src X (hset.below hX)
  have HAG : Hid (askM t g l s e n = 0 → ageA t g l s e n = ageM t g n) := fun h => ageA_ok (ageM_bd h).1
  have CN : Hid (entryC key st pins hs bs.length tn t g l s e = 0 → askM t g l s e n = 0 → wordS src = true → ∀ X, Below w.heap.size w X → Calls Tryz.prog 83 #[.slice ha hs.length hc, .int .i64 (ageM t g n), .string src] X fun r w' => (∃ va vn vc, r = .returned (.slice va vn vc) ∧ At X.heap.size w'.heap.size (HLn va vn vc (ansL hs (ageM t g n) src)) w') ∧ Below X.heap.size X w') := fun h1 h2 h3 X hX => by
    obtain ⟨h20, hz⟩ := ent_small h1
    exact withAge_any X ha hc hs (ageM t g n) src (ageM_bd h2).2.1 (ageM_bd h2).2.2 h20 hz (by have := hword_max h3; omega) (hpw.below hX) (hi.keep hX)
  have CB : Hid (∀ X, Below w.heap.size w X → Calls Tryz.prog 48 #[.slice ba bs.length bc, .bool hd] X fun r w' => (∃ vb vm vd, r = .returned (.slice vb vm vd) ∧ At X.heap.size w'.heap.size (BLn vb vm vd (bodyL hd bs)) w') ∧ Below X.heap.size X w') := fun X hX => (bodyFor_any X ba bc bs hd hbl (hib.keep hX)).mono fun r w' ⟨⟨x, k, h1, h2⟩, h3⟩ => ⟨⟨x, _, k, h1, BLn.of h2⟩, h3⟩
  have GL : Hid (entryC key st pins hs bs.length tn t g l s e = 0 → (ansL hs (ageM t g n) src).length ≤ 22) := fun h => by have := ansL_len hs (ageM t g n) src; have := (ent_small h).1; omega
  clear hW bW hi hib hk hbl htn hset hpw
  obtain ⟨Q, hQ⟩ : ∃ Q : World → Ending → Prop, Q = fun w' r => AnsRes (ansC (entryC key st pins hs bs.length tn t g l s e) (askM t g l s e n) hs (ageM t g n) src) (ansR (ansC (entryC key st pins hs bs.length tn t g l s e) (askM t g l s e n) hs (ageM t g n) src) st) (ansLs (ansC (entryC key st pins hs bs.length tn t g l s e) (askM t g l s e n) hs (ageM t g n) src) hs (ageM t g n) src) (relB (ansC (entryC key st pins hs bs.length tn t g l s e) (askM t g l s e n) hs (ageM t g n) src) hd bs) w w' r := ⟨_, rfl⟩
  have QB : Hid (∀ w' d, ansC (entryC key st pins hs bs.length tn t g l s e) (askM t g l s e n) hs (ageM t g n) src = d → d ≠ 0 → Q w' (.returned (.agg #[.int .i64 d, .int .i64 0, .slice none 0 0, .slice none 0 0]))) := fun w' d h1 h2 => by rw [hQ]; exact AnsRes.bad h1 h2
  have QG : Hid (ansC (entryC key st pins hs bs.length tn t g l s e) (askM t g l s e n) hs (ageM t g n) src = 0 → ∀ w' ra rn rk rb rm rl, At w.heap.size w'.heap.size (RR (ansL hs (ageM t g n) src) (bodyL hd bs) ra rn rk rb rm rl) w' → Q w' (.returned (.agg #[.int .i64 0, .int .i64 st, .slice ra rn rk, .slice rb rm rl]))) := fun h w' ra rn rk rb rm rl k => by rw [hQ]; exact AnsRes.good h k
  show Calls _ _ _ _ fun r w' => AnsRes (ansC (entryC key st pins hs bs.length tn t g l s e) (askM t g l s e n) hs (ageM t g n) src) (ansR (ansC (entryC key st pins hs bs.length tn t g l s e) (askM t g l s e n) hs (ageM t g n) src) st) (ansLs (ansC (entryC key st pins hs bs.length tn t g l s e) (askM t g l s e n) hs (ageM t g n) src) hs (ageM t g n) src) (relB (ansC (entryC key st pins hs bs.length tn t g l s e) (askM t g l s e n) hs (ageM t g n) src) hd bs) w w' r ∧ Below w.heap.size w w'
  refine Calls.mono (R := fun r w' => Q w' r ∧ Below w.heap.size w w') ?_ (fun r w' h => by rw [hQ] at h; exact h)
  clear hQ
  have C1' : Hid (entryC key st pins hs bs.length tn t g l s e ≠ 0 → ansC (entryC key st pins hs bs.length tn t g l s e) (askM t g l s e n) hs (ageM t g n) src = entryC key st pins hs bs.length tn t g l s e) := fun h => ansC1 h
  have C2' : Hid (entryC key st pins hs bs.length tn t g l s e = 0 → askM t g l s e n ≠ 0 → ansC (entryC key st pins hs bs.length tn t g l s e) (askM t g l s e n) hs (ageM t g n) src = askM t g l s e n) := fun h h2 => ansC2 h h2
  have C3' : Hid (entryC key st pins hs bs.length tn t g l s e = 0 → askM t g l s e n = 0 → wordS src = false → ansC (entryC key st pins hs bs.length tn t g l s e) (askM t g l s e n) hs (ageM t g n) src = 5) := fun h h2 h3 => ansC3 h h2 h3
  have C4' : Hid (entryC key st pins hs bs.length tn t g l s e = 0 → askM t g l s e n = 0 → wordS src = true → 20 < (ansL hs (ageM t g n) src).length → ansC (entryC key st pins hs bs.length tn t g l s e) (askM t g l s e n) hs (ageM t g n) src = 2) := fun h h2 h3 h4 => ansC4 h h2 h3 h4
  have C5' : Hid (entryC key st pins hs bs.length tn t g l s e = 0 → askM t g l s e n = 0 → wordS src = true → ¬ 20 < (ansL hs (ageM t g n) src).length → ansC (entryC key st pins hs bs.length tn t g l s e) (askM t g l s e n) hs (ageM t g n) src = 0) := fun h h2 h3 h4 => ansC5 h h2 h3 h4
  clear hhl
  generalize ansC (entryC key st pins hs bs.length tn t g l s e) (askM t g l s e n) hs (ageM t g n) src = ac at *
  generalize ansL hs (ageM t g n) src = M at *
  generalize ageA t g l s e n = ag at *
  generalize ageM t g n = am at *
  generalize bodyL hd bs = BL0 at *
  generalize entryC key st pins hs bs.length tn t g l s e = c at *
  generalize askM t g l s e n = m at *
  generalize wordS src = ws at *
  generalize hs.length = hl at *
  generalize bs.length = bn at *
  go_enter Tryz.func39, Tryz.ntmps39
  go_wp2_with fail
  rw [← HW.out]
  refine (CF.out W KW.out.1).mono ?_
  rintro r0 w1 ⟨rfl, hb1⟩
  have K1 : Hid (Below w.heap.size w w1 ∧ At w.heap.size (w.heap.size + 1) (Bx w.heap.size [.string key, .int .i64 st, .slice ha hl hc, .slice ba bn bc, .int .i64 t, .int .i64 g, .int .i64 l, .int .i64 s, .int .i64 e, .bool b1, .bool b2, .slice ta tn tc, .int .i64 pins]) w1 ∧ At (w.heap.size + 1) (w.heap.size + 1 + 1) (Bx (w.heap.size + 1) [.int .i64 0, .int .i64 0, .slice none 0 0, .slice none 0 0]) w1) := ⟨KW.out.1.trans (hb1.mono KW.out.1.size), KW.out.2.1.keep hb1, KW.out.2.2.keep hb1⟩
  clear hb1 KW HW CF
  by_cases hc0 : c = 0
  · have E0 : Hid (c = 0) := hc0
    subst hc0
    have q4 := K1.out.2.1.val.1 4 _ rfl
    have q5 := K1.out.2.1.val.1 5 _ rfl
    have q6 := K1.out.2.1.val.1 6 _ rfl
    have q7 := K1.out.2.1.val.1 7 _ rfl
    have q8 := K1.out.2.1.val.1 8 _ rfl
    have q9 := K1.out.2.1.val.1 9 _ rfl
    have q10 := K1.out.2.1.val.1 10 _ rfl
    go_wp2_with fail
    refine (CK.out w1).mono ?_
    rintro r0 w2 ⟨rfl, hb2⟩
    clear q4 q5 q6 q7 q8 q9 q10
    obtain ⟨V, hV⟩ : ∃ V, V = w2.alloc (.cells #[.int .i64 m, .int .i64 ag] 126) := ⟨_, rfl⟩
    have HV : Hid (V = w2.alloc (.cells #[.int .i64 m, .int .i64 ag] 126)) := hV
    have aV : Below w2.heap.size w2 V := by rw [hV]; exact (Below.refl _ _).alloc (Nat.le_refl _) _
    have b12 := hb2.trans (aV.mono hb2.size)
    have K2 : Hid (Below w.heap.size w V ∧ At w.heap.size (w.heap.size + 1) (Bx w.heap.size [.string key, .int .i64 st, .slice ha hl hc, .slice ba bn bc, .int .i64 t, .int .i64 g, .int .i64 l, .int .i64 s, .int .i64 e, .bool b1, .bool b2, .slice ta tn tc, .int .i64 pins]) V ∧ At (w.heap.size + 1) (w.heap.size + 1 + 1) (Bx (w.heap.size + 1) [.int .i64 0, .int .i64 0, .slice none 0 0, .slice none 0 0]) V ∧ At w2.heap.size (w2.heap.size + 1) (Bx w2.heap.size [.int .i64 m, .int .i64 ag]) V) := ⟨K1.out.1.trans (b12.mono K1.out.1.size), K1.out.2.1.keep b12, K1.out.2.2.keep b12, by rw [hV]; exact Bx.new _ _ _⟩
    clear hb2 K1 CK aV b12 hV
    have y0 := K2.out.2.2.2.val.1 0 _ rfl
    rw [HV.out] at y0
    by_cases hm0 : m = 0
    · have hag := HAG.out hm0
      have HAGE : Hid (ag = am) := hag
      clear hag HAG
      subst hm0
      go_wp2_with fail
      rw [← HV.out]
      refine (CW.out V K2.out.1).mono ?_
      rintro r0 w3 ⟨rfl, hb3⟩
      have K3 : Hid (Below w.heap.size w w3 ∧ At w.heap.size (w.heap.size + 1) (Bx w.heap.size [.string key, .int .i64 st, .slice ha hl hc, .slice ba bn bc, .int .i64 t, .int .i64 g, .int .i64 l, .int .i64 s, .int .i64 e, .bool b1, .bool b2, .slice ta tn tc, .int .i64 pins]) w3 ∧ At (w.heap.size + 1) (w.heap.size + 1 + 1) (Bx (w.heap.size + 1) [.int .i64 0, .int .i64 0, .slice none 0 0, .slice none 0 0]) w3 ∧ At w2.heap.size (w2.heap.size + 1) (Bx w2.heap.size [.int .i64 0, .int .i64 ag]) w3) := ⟨K2.out.1.trans (hb3.mono K2.out.1.size), K2.out.2.1.keep hb3, K2.out.2.2.1.keep hb3, K2.out.2.2.2.keep hb3⟩
      clear hb3 K2 CW y0 HV
      cases ws
      · have HKB := K3.out.1
        have z0 := K3.out.2.2.1.val.1 0 _ rfl
        have z1 := K3.out.2.2.1.val.1 1 _ rfl
        have z2 := K3.out.2.2.1.val.1 2 _ rfl
        have z3 := K3.out.2.2.1.val.1 3 _ rfl
        have zf0 := K3.out.2.2.1.val.2 0
        have zf1 := K3.out.2.2.1.val.2 1
        have zf2 := K3.out.2.2.1.val.2 2
        have zf3 := K3.out.2.2.1.val.2 3
        have HB : Hid (Below w.heap.size w w3) := HKB
        clear HKB
        go_wp2_with fail
        have bb := HB.out
        exact bodyPost_ret (v := .agg #[.int .i64 5, .int .i64 0, .slice none 0 0, .slice none 0 0]) (by simp [results, Tryz.results39, go_sem, z0, z1, z2, z3]) rfl ⟨QB.out _ _ (C3'.out (by trivial) (by trivial) (by trivial)) (by decide), (((bb.setCell (by simp) _).setCell (by simp) _).setCell (by simp) _).setCell (by simp) _⟩
      · have q2 := K3.out.2.1.val.1 2 _ rfl
        have y1 := K3.out.2.2.2.val.1 1 _ rfl
        rw [HAGE.out] at y1
        go_wp2_with fail
        refine (CN.out (by trivial) (by trivial) (by trivial) w3 K3.out.1).mono ?_
        rintro r0 w4 ⟨⟨va, vn, vc, rfl, c4⟩, hb4⟩
        clear q2 y1
        have K4 : Hid (Below w.heap.size w w4 ∧ At w.heap.size (w.heap.size + 1) (Bx w.heap.size [.string key, .int .i64 st, .slice ha hl hc, .slice ba bn bc, .int .i64 t, .int .i64 g, .int .i64 l, .int .i64 s, .int .i64 e, .bool b1, .bool b2, .slice ta tn tc, .int .i64 pins]) w4 ∧ At (w.heap.size + 1) (w.heap.size + 1 + 1) (Bx (w.heap.size + 1) [.int .i64 0, .int .i64 0, .slice none 0 0, .slice none 0 0]) w4 ∧ At w3.heap.size w4.heap.size (HLn va vn vc M) w4 ∧ w.heap.size + 1 + 1 ≤ w3.heap.size) := ⟨K3.out.1.trans (hb4.mono K3.out.1.size), K3.out.2.1.keep hb4, K3.out.2.2.1.keep hb4, c4, K3.out.2.2.1.le⟩
        clear c4 hb4 K3 CN
        have gl := GL.out (by trivial)
        have hvn := K4.out.2.2.2.1.val.1
        by_cases hgt : 20 < M.length
        · have gi : (20 : Int) < (vn : Int) := by omega
          have HC : Hid (ac = 2) := C4'.out (by trivial) (by trivial) (by trivial) hgt
          have HB : Hid (Below w.heap.size w w4) := K4.out.1
          have z0 := K4.out.2.2.1.val.1 0 _ rfl
          have z1 := K4.out.2.2.1.val.1 1 _ rfl
          have z2 := K4.out.2.2.1.val.1 2 _ rfl
          have z3 := K4.out.2.2.1.val.1 3 _ rfl
          have zf0 := K4.out.2.2.1.val.2 0
          have zf1 := K4.out.2.2.1.val.2 1
          have zf2 := K4.out.2.2.1.val.2 2
          have zf3 := K4.out.2.2.1.val.2 3
          clear hgt gl hvn C1' C2' C3' C4' C5' K4 GL QG CB
          go_wp2_with fail
          have bb := HB.out
          exact bodyPost_ret (v := .agg #[.int .i64 2, .int .i64 0, .slice none 0 0, .slice none 0 0]) (by simp [results, Tryz.results39, go_sem, z0, z1, z2, z3]) rfl ⟨QB.out _ _ HC.out (by decide), (((bb.setCell (by simp) _).setCell (by simp) _).setCell (by simp) _).setCell (by simp) _⟩
        · have gi : ¬ (20 : Int) < (vn : Int) := by omega
          have HC := hidL (QG.out (C5'.out (by trivial) (by trivial) (by trivial) hgt))
          clear hgt gl hvn C1' C2' C3' C4' C5' GL QG QB
          have HKS : Hid (∀ X, Below w4.heap.size w4 X → X.cell? ⟨w.heap.size, 1, none⟩ = some (.int .i64 st) ∧ X.cell? ⟨w.heap.size, 3, none⟩ = some (.slice ba bn bc)) := fun X hX => ⟨(K4.out.2.1.keep hX).val.1 1 _ rfl, (K4.out.2.1.keep hX).val.1 3 _ rfl⟩
          have B0 : Hid (Below w4.heap.size w4 w4.drew) := (Below.refl _ _).drew
          go_upto_region 12 with fail
          clear gi
          go_region_held3 (fun X => X.cell? ⟨w.heap.size, 1, none⟩ = some (.int .i64 st) ∧ X.cell? ⟨w.heap.size, 3, none⟩ = some (.slice ba bn bc))
            (first | (with_reducible exact SF.out) | ((with_reducible refine HKS.out _ ?_); (with_reducible exact BB.out)) | ((with_reducible refine HKS.out _ ?_); (with_reducible exact B0.out)))
            (first
            | (go_at_call 48; (with_reducible refine (CB.out w4.drew (K4.out.1.trans (B0.out.mono K4.out.1.size))).mono ?_); rintro e0 w6 ⟨⟨vb, vm, vd, rfl, cb⟩, hb⟩; have BB : Hid (Below w4.heap.size w4 w6) := B0.out.trans (hb.mono B0.out.size); have CB5 : Hid (At w4.heap.size w6.heap.size (BLn vb vm vd BL0) w6) := cb; have KB := K4.out.2.2.1.keep BB.out; have z0 := KB.val.1 0 _ rfl; have z1 := KB.val.1 1 _ rfl; have z2 := KB.val.1 2 _ rfl; have z3 := KB.val.1 3 _ rfl; have zf0 := KB.val.2 0; have zf1 := KB.val.2 1; have zf2 := KB.val.2 2; have zf3 := KB.val.2 3; have SF : Hid (((((w6.setCell ⟨w.heap.size + 1, 0, none⟩ (.int .i64 0)).setCell ⟨w.heap.size + 1, 1, none⟩ (.int .i64 st)).setCell ⟨w.heap.size + 1, 2, none⟩ (.slice va vn vc)).setCell ⟨w.heap.size + 1, 3, none⟩ (.slice vb vm vd)).cell? ⟨w.heap.size, 1, none⟩ = some (.int .i64 st) ∧ ((((w6.setCell ⟨w.heap.size + 1, 0, none⟩ (.int .i64 0)).setCell ⟨w.heap.size + 1, 1, none⟩ (.int .i64 st)).setCell ⟨w.heap.size + 1, 2, none⟩ (.slice va vn vc)).setCell ⟨w.heap.size + 1, 3, none⟩ (.slice vb vm vd)).cell? ⟨w.heap.size, 3, none⟩ = some (.slice ba bn bc)) := (by have ne : ∀ (i o : Nat), (⟨w.heap.size + 1, i, none⟩ : Addr) ≠ ⟨w.heap.size, o, none⟩ := fun i o q => (by have := congrArg Addr.block q; simp only at *; omega); rw [World.cell?_setCell_other _ _ _ _ (ne _ _), World.cell?_setCell_other _ _ _ _ (ne _ _), World.cell?_setCell_other _ _ _ _ (ne _ _), World.cell?_setCell_other _ _ _ _ (ne _ _), World.cell?_setCell_other _ _ _ _ (ne _ _), World.cell?_setCell_other _ _ _ _ (ne _ _), World.cell?_setCell_other _ _ _ _ (ne _ _), World.cell?_setCell_other _ _ _ _ (ne _ _)]; exact HKS.out _ BB.out); clear hb cb KB))
          have HF : Hid (At w.heap.size ((((w6.setCell ⟨w.heap.size + 1, 0, none⟩ (.int .i64 0)).setCell ⟨w.heap.size + 1, 1, none⟩ (.int .i64 st)).setCell ⟨w.heap.size + 1, 2, none⟩ (.slice va vn vc)).setCell ⟨w.heap.size + 1, 3, none⟩ (.slice vb vm vd)).heap.size (RR M BL0 va vn vc vb vm vd) ((((w6.setCell ⟨w.heap.size + 1, 0, none⟩ (.int .i64 0)).setCell ⟨w.heap.size + 1, 1, none⟩ (.int .i64 st)).setCell ⟨w.heap.size + 1, 2, none⟩ (.slice va vn vc)).setCell ⟨w.heap.size + 1, 3, none⟩ (.slice vb vm vd)) ∧ Below w.heap.size w ((((w6.setCell ⟨w.heap.size + 1, 0, none⟩ (.int .i64 0)).setCell ⟨w.heap.size + 1, 1, none⟩ (.int .i64 st)).setCell ⟨w.heap.size + 1, 2, none⟩ (.slice va vn vc)).setCell ⟨w.heap.size + 1, 3, none⟩ (.slice vb vm vd))) := by
            have a1 := K4.out.2.2.2.1.keep BB.out
            have a2 := CB5.out
            have hy := K4.out.2.2.2.2
            have ho := K4.out.2.2.2.1.le
            have hx := K4.out.2.2.1.le
            have bb := K4.out.1.trans (BB.out.mono K4.out.1.size)
            have s1 := BB.out.size
            have c1 : At w3.heap.size w4.heap.size (HLn va vn vc M) ((((w6.setCell ⟨w.heap.size + 1, 0, none⟩ (.int .i64 0)).setCell ⟨w.heap.size + 1, 1, none⟩ (.int .i64 st)).setCell ⟨w.heap.size + 1, 2, none⟩ (.slice va vn vc)).setCell ⟨w.heap.size + 1, 3, none⟩ (.slice vb vm vd)) := (((a1.set _ (.inl (by omega))).set _ (.inl (by omega))).set _ (.inl (by omega))).set _ (.inl (by omega))
            have c2 : At w4.heap.size w6.heap.size (BLn vb vm vd BL0) ((((w6.setCell ⟨w.heap.size + 1, 0, none⟩ (.int .i64 0)).setCell ⟨w.heap.size + 1, 1, none⟩ (.int .i64 st)).setCell ⟨w.heap.size + 1, 2, none⟩ (.slice va vn vc)).setCell ⟨w.heap.size + 1, 3, none⟩ (.slice vb vm vd)) := (((a2.set _ (.inl (by omega))).set _ (.inl (by omega))).set _ (.inl (by omega))).set _ (.inl (by omega))
            exact ⟨⟨Nat.le_refl _, RR.dep _ _ _ _ _ _ _ _ _ _, c1.val.1, c2.val.1, c1.val.2.wide (by omega) c1.le, c2.val.2.wide (by omega) c2.le, Ap.of c1.val.2.2 c2.val.2.2 (.inl (Nat.le_refl _))⟩, (((bb.setCell (by simp) _).setCell (by simp) _).setCell (by simp) _).setCell (by simp) _⟩
          clear HKS B0 BB CB5 K4 CB
          go_wp2_with fail
          exact bodyPost_ret (v := .agg #[.int .i64 0, .int .i64 st, .slice va vn vc, .slice vb vm vd]) (by simp [results, Tryz.results39, go_sem, z0, z1, z2, z3]) rfl ⟨HC.out _ _ _ _ _ _ _ HF.out.1, HF.out.2⟩
    · have HB : Hid (Below w.heap.size w V) := K2.out.1
      have z0 := K2.out.2.2.1.val.1 0 _ rfl
      have z1 := K2.out.2.2.1.val.1 1 _ rfl
      have z2 := K2.out.2.2.1.val.1 2 _ rfl
      have z3 := K2.out.2.2.1.val.1 3 _ rfl
      have zf0 := K2.out.2.2.1.val.2 0
      have zf1 := K2.out.2.2.1.val.2 1
      have zf2 := K2.out.2.2.1.val.2 2
      have zf3 := K2.out.2.2.1.val.2 3
      rw [HV.out] at z0 z1 z2 z3 zf0 zf1 zf2 zf3
      clear K2
      go_wp2_with fail
      rw [← HV.out]
      rw [← HV.out] at z0 z1 z2 z3
      have bb := HB.out
      exact bodyPost_ret (v := .agg #[.int .i64 m, .int .i64 0, .slice none 0 0, .slice none 0 0]) (by simp [results, Tryz.results39, go_sem, z0, z1, z2, z3]) rfl ⟨QB.out _ _ (C2'.out (by trivial) hm0) hm0, (((bb.setCell (by simp) _).setCell (by simp) _).setCell (by simp) _).setCell (by simp) _⟩
  · have HKB := K1.out.1
    have z0 := K1.out.2.2.val.1 0 _ rfl
    have z1 := K1.out.2.2.val.1 1 _ rfl
    have z2 := K1.out.2.2.val.1 2 _ rfl
    have z3 := K1.out.2.2.val.1 3 _ rfl
    have zf0 := K1.out.2.2.val.2 0
    have zf1 := K1.out.2.2.val.2 1
    have zf2 := K1.out.2.2.val.2 2
    have zf3 := K1.out.2.2.val.2 3
    have HB : Hid (Below w.heap.size w w1) := HKB
    clear HKB
    go_wp2_with fail
    have bb := HB.out
    exact bodyPost_ret (v := .agg #[.int .i64 c, .int .i64 0, .slice none 0 0, .slice none 0 0]) (by simp [results, Tryz.results39, go_sem, z0, z1, z2, z3]) rfl ⟨QB.out _ _ (C1'.out hc0) hc0, (((bb.setCell (by simp) _).setCell (by simp) _).setCell (by simp) _).setCell (by simp) _⟩
end Go.Proofs.YtopkidfbkhjaeaaGreatDoor
/-
  The law of AnswerOf.
-/
namespace Go.Proofs.YtopkidfbkhjaeaaGreatDoor
open Go.ChangeShapes Go.WideShapes Go.ChangeAt Go.RowKit Go.Sort
theorem relB_few {c : Int} {hd : Bool} {bl : List UInt8} (h : bl.length ≤ 1048576) : (relB c hd bl).length ≤ 1048576 := by
  unfold relB bodyL
  split
  · split
    · exact Nat.zero_le _
    · exact h
  · exact Nat.zero_le _
theorem ansLs_len {c m : Int} {l : List Hdr} {a : Int} {src : ByteArray} : (ansLs (ansC c m l a src) l a src).length ≤ 20 := by
  unfold ansLs
  split
  · rename_i h
    unfold ansC at h
    split at h
    · omega
    · split at h
      · omega
      · split at h
        · omega
        · split at h <;> omega
  · exact Nat.zero_le _
theorem lawAnswerOf (w : World) (q : Ent) (r : EntR) (n : Int) (src : ByteArray) (hd : Bool) (hset : SetIs w) (hpw : num.PowIs w) (hi : EntIn w q r) (hs : EntSm q) :
    Calls Tryz.prog 6 #[entV q r, .int .i64 n, .string src, .bool hd] w fun e w' => e = .returned (.bool true) ∧ Below w.heap.size w w' := by
  have sz : ¬ szE 1048576 q.key q.hs q.bl q.ts < 0 → EntFew q := fun h => (entFew (by omega) h).1
  refine walk_Answer w q.key q.st r.ha q.hs.length r.hc r.ba q.bl.length r.bc q.t q.g q.l q.s q.e q.b1 q.b2 r.ta q.ts.length r.tc q.pins n src hd (ansC (entryC q.key q.st q.pins q.hs q.bl.length q.ts.length q.t q.g q.l q.s q.e) (askM q.t q.g q.l q.s q.e n) q.hs (ageM q.t q.g n) src) (ansR (ansC (entryC q.key q.st q.pins q.hs q.bl.length q.ts.length q.t q.g q.l q.s q.e) (askM q.t q.g q.l q.s q.e n) q.hs (ageM q.t q.g n) src) q.st) (szE 1048576 q.key q.hs q.bl q.ts) (CEnt q) (RR (ansLs (ansC (entryC q.key q.st q.pins q.hs q.bl.length q.ts.length q.t q.g q.l q.s q.e) (askM q.t q.g q.l q.s q.e n) q.hs (ageM q.t q.g n) src) q.hs (ageM q.t q.g n) src) (relB (ansC (entryC q.key q.st q.pins q.hs q.bl.length q.ts.length q.t q.g q.l q.s q.e) (askM q.t q.g q.l q.s q.e n) q.hs (ageM q.t q.g n) src) hd q.bl)) (MRR (ansLs (ansC (entryC q.key q.st q.pins q.hs q.bl.length q.ts.length q.t q.g q.l q.s q.e) (askM q.t q.g q.l q.s q.e n) q.hs (ageM q.t q.g n) src) q.hs (ageM q.t q.g n) src) (relB (ansC (entryC q.key q.st q.pins q.hs q.bl.length q.ts.length q.t q.g q.l q.s q.e) (askM q.t q.g q.l q.s q.e n) q.hs (ageM q.t q.g n) src) hd q.bl)) ((1 + 2 * q.hs.length + q.bl.length + q.ts.length : Nat) : Int) ((1 + 2 * (ansLs (ansC (entryC q.key q.st q.pins q.hs q.bl.length q.ts.length q.t q.g q.l q.s q.e) (askM q.t q.g q.l q.s q.e n) q.hs (ageM q.t q.g n) src) q.hs (ageM q.t q.g n) src).length + (relB (ansC (entryC q.key q.st q.pins q.hs q.bl.length q.ts.length q.t q.g q.l q.s q.e) (askM q.t q.g q.l q.s q.e n) q.hs (ageM q.t q.g n) src) hd q.bl).length : Nat) : Int) ?_ ?_ ?_ ?_ ?_ ?_ ?_ ?_ ?_ ?_ ?_
  · exact fun X hX => entZ w q r hi hs 1048576 (by omega) (by omega) X hX
  · exact fun _ h X hX => entT w q r hi (sz h) X hX
  · exact fun _ h => entQ q (sz h)
  · exact fun _ h X lo hi K D J c hb => entM q (sz h) 1 (Nat.le_refl _) (by omega) w.heap.size X lo hi K D J c hb
  · exact fun _ h X l1 h1 K D J _ c => (specAnswer_any X q.key q.st (some ⟨K, 0, none⟩) q.hs.length (some ⟨D, 0, none⟩) q.bl.length q.t q.g q.l q.s q.e q.b1 q.b2 (some ⟨J, 0, none⟩) q.ts.length q.ts.length q.pins q.hs q.bl n src hd hs.key (sz h).h (sz h).b (Nat.le_trans (sz h).t (by unfold maxLen; omega)) (.inr ⟨K, 0, rfl, c.val.1.1.at0⟩) (.inr ⟨D, 0, rfl, c.val.2.1.1.at0⟩)).mono fun _ _ ⟨p, q⟩ => ⟨p, q⟩
  · exact fun _ h X l1 h1 K D J hX c => (implAnswer_any X q.key q.st (some ⟨K, 0, none⟩) q.hs.length (some ⟨D, 0, none⟩) q.bl.length q.t q.g q.l q.s q.e q.b1 q.b2 (some ⟨J, 0, none⟩) q.ts.length q.ts.length q.pins q.hs q.bl n src hd hs.key (sz h).h (sz h).b (Nat.le_trans (sz h).t (by unfold maxLen; omega)) (hset.below hX) (hpw.below hX) (.inr ⟨K, 0, rfl, c.val.1.1.at0⟩) (.inr ⟨D, 0, rfl, c.val.2.1.1.at0⟩)).mono fun _ _ ⟨p, q⟩ => ⟨p, q⟩
  · exact fun _ h X la ha lb hb xa xn xk xb xm xl ya yn yk yb ym yl p q => rrQ _ _ _ _ (Nat.le_trans ansLs_len (by omega)) (relB_few (sz h).b) X la ha lb hb xa xn xk xb xm xl ya yn yk yb ym yl p q
  · exact fun _ h X lo hi ra rn rk rb rm rl hX p hb => rrM _ _ _ _ (Nat.le_trans ansLs_len (by omega)) (relB_few (sz h).b) w.heap.size X lo hi ra rn rk rb rm rl p hb hX.size
  · exact fun _ h X lo hi ra rn rk rb rm rl p => rrH _ _ _ _ (Nat.le_trans ansLs_len (by omega)) (relB_few (sz h).b) X lo hi ra rn rk rb rm rl p
  · omega
  · omega
end Go.Proofs.YtopkidfbkhjaeaaGreatDoor
/-
  A list of texts that came in, opened.
-/
namespace Go.Proofs.YtopkidfbkhjaeaaGreatDoor
open Go.ChangeShapes Go.WideShapes Go.ChangeAt Go.RowKit Go.Deep
theorem textOne : Tryz.prog.cellsOf 9 = 1 := by kernel_rfl
theorem open_texts {H : Type} {enc : TypeId × Value → H} {w : World} {base : Nat} {spare : Nat → Bool} {held : Bool} {fuel : Nat} {a : Option Addr} {len cap : Nat} {x : DataW H × List MemPlace}
    (h : DataW.trod enc Tryz.prog w base spare held fuel 43 [.slice a len cap] = some x) : ∃ l : List ByteArray, l.length = len ∧ len ≤ maxLen ∧ (∀ x ∈ l, x.size ≤ maxLen) ∧ TIn w a l := by
  rcases open_slice Tryz.underlying43 h with ⟨hcs, _⟩ | ⟨A, len', cap', m, n, D, Pl, hcs, _, hl, hm, hmm, _, hel⟩
  · simp only [List.cons.injEq, Value.slice.injEq, and_true] at hcs
    obtain ⟨_, rfl, _⟩ := hcs
    exact ⟨[], rfl, by unfold maxLen; omega, (fun x hx => by cases hx), .inl rfl⟩
  · simp only [List.cons.injEq, Value.slice.injEq, and_true] at hcs
    obtain ⟨rfl, rfl, rfl⟩ := hcs
    have hlm : len ≤ m := by rw [hmm]; split <;> omega
    have hrec : ∀ i, i < len → ∃ r : ByteArray, w.cells? base (A.add (i * 1)) 1 = some [.string r] ∧ r.size ≤ maxLen := by
      intro i hi
      obtain ⟨cs', hc, ht⟩ := hel i (by omega)
      rw [textOne] at hc
      obtain ⟨r, e, _, z⟩ := DataW.trod_string Tryz.underlying9 ht
      exact ⟨r, by rw [hc, e], z⟩
    obtain ⟨f, hf⟩ : ∃ f : Nat → ByteArray, ∀ i, i < len → w.cells? base (A.add (i * 1)) 1 = some [.string (f i)] ∧ (f i).size ≤ maxLen := by
      classical
      refine ⟨fun i => if hi : i < len then (hrec i hi).choose else .empty, fun i hi => ?_⟩
      simp only [dif_pos hi]
      exact (hrec i hi).choose_spec
    refine ⟨(List.range len).map f, by simp, by omega, ?_, ?_⟩
    · intro x hx
      obtain ⟨i, hi, rfl⟩ := List.mem_map.1 hx
      exact (hf i (by simpa using hi)).2
    · by_cases h0 : len = 0
      · subst h0; exact .inl rfl
      · obtain ⟨b, off, spot⟩ := A
        have cells : ∀ i, i < len → w.cell? ((⟨b, off, spot⟩ : Addr).add i) = some (.string (f i)) := by
          intro i hi
          have c := (World.cells?_some (hf i hi).1).2.2 0 (by omega)
          rw [add_add] at c
          simpa using c
        have hs : spot = none := by
          have c := cells 0 (by omega)
          simpa [Addr.add] using World.cell?_spot c
        subst hs
        have hadd : ∀ i, (⟨b, off, none⟩ : Addr).add i = ⟨b, off + i, none⟩ := fun i => by unfold Addr.add; split <;> simp_all
        refine .inr ⟨b, off, rfl, fun i r hr => ?_⟩
        rw [List.getElem?_map] at hr
        obtain ⟨j, hj, rfl⟩ := Option.map_eq_some_iff.1 hr
        obtain ⟨hlt, rfl⟩ := List.getElem?_eq_some_iff.1 hj
        simp only [List.length_range] at hlt
        simp only [List.getElem_range]
        have q0 := cells i hlt
        rw [hadd] at q0
        exact q0
end Go.Proofs.YtopkidfbkhjaeaaGreatDoor
/-
  What is kept with an answer, as it came in by value, opened.
-/
namespace Go.Proofs.YtopkidfbkhjaeaaGreatDoor
open Go.ChangeShapes Go.WideShapes Go.ChangeAt Go.RowKit
theorem metaCells : Tryz.prog.cellsOf 42 = 7 := by kernel_rfl
theorem oneIm : Tryz.prog.cellsOf 2 = 1 := by kernel_rfl
theorem oneBm : Tryz.prog.cellsOf 4 = 1 := by kernel_rfl
set_option maxRecDepth 100000 in
theorem open_meta {H : Type} {enc : TypeId × Value → H} {w : World} {r : Reach} {b0 base : Nat} {spare : Nat → Bool} {held : Bool} {v : Value} {d : DataW H} {p : List MemPlace}
    (hv : Value.okWide Tryz.prog w r b0 42 v) (h : DataW.Trod enc Tryz.prog w base spare held 42 v d p) :
    ∃ (u : Int × Int × Int × Int × Int) (t : Bool × Bool), v = .agg #[.int .i64 u.1, .int .i64 u.2.1, .int .i64 u.2.2.1, .int .i64 u.2.2.2.1, .int .i64 u.2.2.2.2, .bool t.1, .bool t.2] := by
  obtain ⟨cs, rfl, hsz⟩ := okWide_struct Tryz.underlying42 hv
  obtain ⟨fuel, hf0⟩ := h
  obtain ⟨xs, n, _, _, hl, hlen, hf⟩ := DataW.trod_struct Tryz.underlying42 hf0
  match xs, hlen with
  | [y0, y1, y2, y3, y4, y5, y6], _ =>
    have h0 : DataW.trod enc Tryz.prog w base spare held n 2 (((Value.agg cs).cells.toList.drop 0).take (Tryz.prog.cellsOf 2)) = some y0 := hf 0 _ rfl
    have h1 : DataW.trod enc Tryz.prog w base spare held n 2 (((Value.agg cs).cells.toList.drop 1).take (Tryz.prog.cellsOf 2)) = some y1 := hf 1 _ rfl
    have h2 : DataW.trod enc Tryz.prog w base spare held n 2 (((Value.agg cs).cells.toList.drop 2).take (Tryz.prog.cellsOf 2)) = some y2 := hf 2 _ rfl
    have h3 : DataW.trod enc Tryz.prog w base spare held n 2 (((Value.agg cs).cells.toList.drop 3).take (Tryz.prog.cellsOf 2)) = some y3 := hf 3 _ rfl
    have h4 : DataW.trod enc Tryz.prog w base spare held n 2 (((Value.agg cs).cells.toList.drop 4).take (Tryz.prog.cellsOf 2)) = some y4 := hf 4 _ rfl
    have h5 : DataW.trod enc Tryz.prog w base spare held n 4 (((Value.agg cs).cells.toList.drop 5).take (Tryz.prog.cellsOf 4)) = some y5 := hf 5 _ rfl
    have h6 : DataW.trod enc Tryz.prog w base spare held n 4 (((Value.agg cs).cells.toList.drop 6).take (Tryz.prog.cellsOf 4)) = some y6 := hf 6 _ rfl
    rw [oneIm] at h0 h1 h2 h3 h4
    rw [oneBm] at h5 h6
    obtain ⟨s0, e0, _⟩ := DataW.trod_int Tryz.underlying2 h0
    obtain ⟨s1, e1, _⟩ := DataW.trod_int Tryz.underlying2 h1
    obtain ⟨s2, e2, _⟩ := DataW.trod_int Tryz.underlying2 h2
    obtain ⟨s3, e3, _⟩ := DataW.trod_int Tryz.underlying2 h3
    obtain ⟨s4, e4, _⟩ := DataW.trod_int Tryz.underlying2 h4
    obtain ⟨s5, e5, _⟩ := DataW.trod_bool Tryz.underlying4 h5
    obtain ⟨s6, e6, _⟩ := DataW.trod_bool Tryz.underlying4 h6
    refine ⟨(s0, s1, s2, s3, s4), (s5, s6), ?_⟩
    have e : cs.toList = [.int .i64 s0, .int .i64 s1, .int .i64 s2, .int .i64 s3, .int .i64 s4, .bool s5, .bool s6] := by
      simp only [Value.cells] at e0 e1 e2 e3 e4 e5 e6 hl
      rw [metaCells] at hl
      match hc : cs.toList, hl with
      | [c0, c1, c2, c3, c4, c5, c6], _ =>
        rw [hc] at e0 e1 e2 e3 e4 e5 e6
        simp only [List.drop_zero, List.take_succ_cons, List.take_zero, List.drop_succ_cons, List.cons.injEq, and_true] at e0 e1 e2 e3 e4 e5 e6
        rw [e0, e1, e2, e3, e4, e5, e6]
    congr 1
    exact Array.toList_inj.1 e
end Go.Proofs.YtopkidfbkhjaeaaGreatDoor
/-
  An entry that came in, and entries, opened.
-/
namespace Go.Proofs.YtopkidfbkhjaeaaGreatDoor
open Go.ChangeShapes Go.WideShapes Go.ChangeAt Go.RowKit Go.Deep
theorem entCells : Tryz.prog.cellsOf 45 = 13 := by kernel_rfl
theorem eOneS : Tryz.prog.cellsOf 9 = 1 := by kernel_rfl
theorem eOneI : Tryz.prog.cellsOf 2 = 1 := by kernel_rfl
theorem eOneB : Tryz.prog.cellsOf 4 = 1 := by kernel_rfl
theorem eOneH : Tryz.prog.cellsOf 22 = 1 := by kernel_rfl
theorem eOneU : Tryz.prog.cellsOf 23 = 1 := by kernel_rfl
theorem eOneT : Tryz.prog.cellsOf 43 = 1 := by kernel_rfl
theorem eMeta : Tryz.prog.cellsOf 42 = 7 := by kernel_rfl
theorem slice_cap {H : Type} {enc : TypeId × Value → H} {P : Program} {w : World} {base : Nat} {spare : Nat → Bool} {held : Bool} {fuel : Nat} {t e : TypeId} {a : Option Addr} {n c : Nat} {x : DataW H × List MemPlace} (ht : P.underlying t = some (.slice e))
    (h : DataW.trod enc P w base spare held fuel t [.slice a n c] = some x) : n ≤ c := by
  rcases open_slice ht h with ⟨hcs, _⟩ | ⟨A, len', cap', m, n', D, Pl, hcs, _, hl, _⟩
  · simp only [List.cons.injEq, Value.slice.injEq, and_true] at hcs
    omega
  · simp only [List.cons.injEq, Value.slice.injEq, and_true] at hcs
    omega
set_option maxRecDepth 100000 in
theorem meta_cs {H : Type} {enc : TypeId × Value → H} {w : World} {base : Nat} {spare : Nat → Bool} {held : Bool} {fuel : Nat} {cs : List Value} {x : DataW H × List MemPlace}
    (h : DataW.trod enc Tryz.prog w base spare held fuel 42 cs = some x) : ∃ (t g l s e : Int) (b1 b2 : Bool), cs = [.int .i64 t, .int .i64 g, .int .i64 l, .int .i64 s, .int .i64 e, .bool b1, .bool b2] := by
  obtain ⟨xs, n, _, _, hl, hlen, hf⟩ := DataW.trod_struct Tryz.underlying42 h
  match xs, hlen with
  | [y0, y1, y2, y3, y4, y5, y6], _ =>
    have h0 : DataW.trod enc Tryz.prog w base spare held n 2 ((cs.drop 0).take (Tryz.prog.cellsOf 2)) = some y0 := hf 0 _ rfl
    have h1 : DataW.trod enc Tryz.prog w base spare held n 2 ((cs.drop 1).take (Tryz.prog.cellsOf 2)) = some y1 := hf 1 _ rfl
    have h2 : DataW.trod enc Tryz.prog w base spare held n 2 ((cs.drop 2).take (Tryz.prog.cellsOf 2)) = some y2 := hf 2 _ rfl
    have h3 : DataW.trod enc Tryz.prog w base spare held n 2 ((cs.drop 3).take (Tryz.prog.cellsOf 2)) = some y3 := hf 3 _ rfl
    have h4 : DataW.trod enc Tryz.prog w base spare held n 2 ((cs.drop 4).take (Tryz.prog.cellsOf 2)) = some y4 := hf 4 _ rfl
    have h5 : DataW.trod enc Tryz.prog w base spare held n 4 ((cs.drop 5).take (Tryz.prog.cellsOf 4)) = some y5 := hf 5 _ rfl
    have h6 : DataW.trod enc Tryz.prog w base spare held n 4 ((cs.drop 6).take (Tryz.prog.cellsOf 4)) = some y6 := hf 6 _ rfl
    rw [eOneI] at h0 h1 h2 h3 h4
    rw [eOneB] at h5 h6
    obtain ⟨s0, e0, _⟩ := DataW.trod_int Tryz.underlying2 h0
    obtain ⟨s1, e1, _⟩ := DataW.trod_int Tryz.underlying2 h1
    obtain ⟨s2, e2, _⟩ := DataW.trod_int Tryz.underlying2 h2
    obtain ⟨s3, e3, _⟩ := DataW.trod_int Tryz.underlying2 h3
    obtain ⟨s4, e4, _⟩ := DataW.trod_int Tryz.underlying2 h4
    obtain ⟨s5, e5, _⟩ := DataW.trod_bool Tryz.underlying4 h5
    obtain ⟨s6, e6, _⟩ := DataW.trod_bool Tryz.underlying4 h6
    refine ⟨s0, s1, s2, s3, s4, s5, s6, ?_⟩
    rw [eMeta] at hl
    match cs, hl with
    | [c0, c1, c2, c3, c4, c5, c6], _ =>
      simp only [List.drop_zero, List.take_succ_cons, List.take_zero, List.drop_succ_cons, List.cons.injEq, and_true] at e0 e1 e2 e3 e4 e5 e6
      rw [e0, e1, e2, e3, e4, e5, e6]
set_option maxRecDepth 100000 in
theorem ent_of {H : Type} {enc : TypeId × Value → H} {w : World} {base : Nat} {spare : Nat → Bool} {held : Bool} {fuel : Nat} {cs : List Value} {x : DataW H × List MemPlace}
    (h : DataW.trod enc Tryz.prog w base spare held fuel 45 cs = some x) : ∃ (q : Ent) (r : EntR), cs = entW q r ∧ EntIn w q r ∧ EntSm q := by
  obtain ⟨xs, n, _, _, hl, hlen, hf⟩ := DataW.trod_struct Tryz.underlying45 h
  match xs, hlen with
  | [y0, y1, y2, y3, y4, y5, y6], _ =>
    have h0 : DataW.trod enc Tryz.prog w base spare held n 9 ((cs.drop 0).take (Tryz.prog.cellsOf 9)) = some y0 := hf 0 _ rfl
    have h1 : DataW.trod enc Tryz.prog w base spare held n 2 ((cs.drop 1).take (Tryz.prog.cellsOf 2)) = some y1 := hf 1 _ rfl
    have h2 : DataW.trod enc Tryz.prog w base spare held n 22 ((cs.drop 2).take (Tryz.prog.cellsOf 22)) = some y2 := hf 2 _ rfl
    have h3 : DataW.trod enc Tryz.prog w base spare held n 23 ((cs.drop 3).take (Tryz.prog.cellsOf 23)) = some y3 := hf 3 _ rfl
    have h4 : DataW.trod enc Tryz.prog w base spare held n 42 ((cs.drop 4).take (Tryz.prog.cellsOf 42)) = some y4 := hf 4 _ rfl
    have h5 : DataW.trod enc Tryz.prog w base spare held n 43 ((cs.drop 11).take (Tryz.prog.cellsOf 43)) = some y5 := hf 5 _ rfl
    have h6 : DataW.trod enc Tryz.prog w base spare held n 2 ((cs.drop 12).take (Tryz.prog.cellsOf 2)) = some y6 := hf 6 _ rfl
    rw [eOneS] at h0
    rw [eOneI] at h1 h6
    rw [eOneH] at h2
    rw [eOneU] at h3
    rw [eMeta] at h4
    rw [eOneT] at h5
    obtain ⟨s0, e0, _, z0⟩ := DataW.trod_string Tryz.underlying9 h0
    obtain ⟨s1, e1, _⟩ := DataW.trod_int Tryz.underlying2 h1
    obtain ⟨ha, hn, hc, e2⟩ := slice_cs Tryz.underlying22 h2
    rw [e2] at h2
    obtain ⟨l, rfl, m2, sm2, o2⟩ := open_headers h2
    obtain ⟨ba, bn, bc, e3⟩ := slice_cs Tryz.underlying23 h3
    rw [e3] at h3
    obtain ⟨bl, rfl, m3, o3⟩ := open_bytes h3
    obtain ⟨t, g, li, s, e, b1, b2, e4⟩ := meta_cs h4
    obtain ⟨ta, tn, tc, e5⟩ := slice_cs Tryz.underlying43 h5
    rw [e5] at h5
    obtain ⟨ts, rfl, m5, sm5, o5⟩ := open_texts h5
    obtain ⟨s6, e6, _⟩ := DataW.trod_int Tryz.underlying2 h6
    refine ⟨⟨s0, s1, l, bl, t, g, li, s, e, b1, b2, ts, s6⟩, ⟨ha, hc, ba, bc, ta, tc⟩, ?_, ⟨o2, o3, o5, slice_cap Tryz.underlying22 h2, slice_cap Tryz.underlying23 h3, slice_cap Tryz.underlying43 h5⟩, ⟨z0, m2, sm2, m3, m5, sm5⟩⟩
    rw [entCells] at hl
    match cs, hl with
    | [c0, c1, c2, c3, c4, c5, c6, c7, c8, c9, c10, c11, c12], _ =>
      simp only [List.drop_zero, List.take_succ_cons, List.take_zero, List.drop_succ_cons, List.cons.injEq, and_true] at e0 e1 e2 e3 e4 e5 e6
      obtain ⟨f4, f5, f6, f7, f8, f9, f10⟩ := e4
      rw [e0, e1, e2, e3, f4, f5, f6, f7, f8, f9, f10, e5, e6]
      rfl
set_option maxRecDepth 100000 in
theorem open_entry {H : Type} {enc : TypeId × Value → H} {w : World} {r : Reach} {b0 base : Nat} {spare : Nat → Bool} {held : Bool} {v : Value} {d : DataW H} {p : List MemPlace}
    (hv : Value.okWide Tryz.prog w r b0 45 v) (h : DataW.Trod enc Tryz.prog w base spare held 45 v d p) : ∃ (q : Ent) (r : EntR), v = entV q r ∧ EntIn w q r ∧ EntSm q := by
  obtain ⟨cs, rfl, hsz⟩ := okWide_struct Tryz.underlying45 hv
  obtain ⟨fuel, hf0⟩ := h
  obtain ⟨q, r, e, h1, h2⟩ := ent_of hf0
  refine ⟨q, r, ?_, h1, h2⟩
  simp only [Value.cells] at e
  show Value.agg cs = .agg _
  congr 1
  exact Array.toList_inj.1 e
end Go.Proofs.YtopkidfbkhjaeaaGreatDoor
/-
  What the row's list gives of the table of powers of ten.
-/
namespace Go.Proofs.YtopkidfbkhjaeaaGreatDoor
namespace num
theorem powType : (Tryz.prog.globals[6]?).map (·.type) = some 307 := by kernel_rfl
theorem powTab {H : Type} : (Rows.laid_internal_strconv_uint64pow10 : DataW H) = Lib.tabData .u64 Lib.pow10Tab := by kernel_rfl
theorem pow_of {w : World} {rest : List (String × DataW Unit)} (h : laidMet Tryz.prog (("internal/strconv.uint64pow10", Rows.laid_internal_strconv_uint64pow10) :: rest) w) : PowIs w := by
  rw [powTab] at h
  exact Lib.tabIs_of_head powNamed powType Tryz.underlying307 Tryz.underlying289 (by kernel_rfl) (by kernel_rfl) h
end num
end Go.Proofs.YtopkidfbkhjaeaaGreatDoor
