/-
  The law of ErrorOf, over contracts.
-/
import Derived.Test.YtjdkkfbijneedaaLawKit
namespace Go.Proofs.Ytjdkkfbijneedaa
open Go.ChangeShapes Go.WideShapes Go.ChangeAt Go.RowKit
set_option linter.unusedSimpArgs false in
set_option maxRecDepth 100000 in
set_option maxHeartbeats 32000000 in
theorem walk_Error (w : World) (stt : Int) (rc rs : Int) (CR MR : Option Addr → Nat → Nat → Option Addr → Nat → Nat → Nat → Nat → World → Prop) (q : Int) (HF : Hid (∀ X , Below w.heap.size w X → Calls Try.prog 4 #[.int .i64 stt] X fun e w' => (∃ (rar : Option Addr) (rnr : Nat) (rkr : Nat) (rbr : Option Addr) (rmr : Nat) (rlr : Nat), e = .returned (.agg #[.int .i64 rc, .int .i64 rs, .slice rar rnr rkr, .slice rbr rmr rlr]) ∧ At X.heap.size w'.heap.size (CR rar rnr rkr rbr rmr rlr) w') ∧ Below X.heap.size X w'))
    (HG : Hid (∀ X , Below w.heap.size w X → Calls Try.prog 5 #[.int .i64 stt] X fun e w' => (∃ (rar : Option Addr) (rnr : Nat) (rkr : Nat) (rbr : Option Addr) (rmr : Nat) (rlr : Nat), e = .returned (.agg #[.int .i64 rc, .int .i64 rs, .slice rar rnr rkr, .slice rbr rmr rlr]) ∧ At X.heap.size w'.heap.size (CR rar rnr rkr rbr rmr rlr) w') ∧ Below X.heap.size X w'))
    (HEQ : Hid (∀ X la ha lb hb (rax : Option Addr) (rnx : Nat) (rkx : Nat) (rbx : Option Addr) (rmx : Nat) (rlx : Nat) (ray : Option Addr) (rny : Nat) (rky : Nat) (rby : Option Addr) (rmy : Nat) (rly : Nat), At la ha (CR rax rnx rkx rbx rmx rlx) X → At lb hb (CR ray rny rky rby rmy rly) X → Calls Try.prog 6 #[.agg #[.int .i64 rc, .int .i64 rs, .slice rax rnx rkx, .slice rbx rmx rlx], .agg #[.int .i64 rc, .int .i64 rs, .slice ray rny rky, .slice rby rmy rly]] X fun e w' => e = .returned (.bool true) ∧ Below X.heap.size X w'))
    (HMR : Hid (∀ X l h (rar : Option Addr) (rnr : Nat) (rkr : Nat) (rbr : Option Addr) (rmr : Nat) (rlr : Nat), Below w.heap.size w X → At l h (CR rar rnr rkr rbr rmr rlr) X → w.heap.size ≤ l → Calls Try.prog 7 #[.agg #[.int .i64 rc, .int .i64 rs, .slice rar rnr rkr, .slice rbr rmr rlr], .int .i64 1] X fun e w' => e = .returned (.int .i64 q) ∧ At l h (MR rar rnr rkr rbr rmr rlr) w' ∧ Wi l h X w' ∧ Below w.heap.size X w'))
    (HHR : Hid (∀ X l h (rar : Option Addr) (rnr : Nat) (rkr : Nat) (rbr : Option Addr) (rmr : Nat) (rlr : Nat), At l h (MR rar rnr rkr rbr rmr rlr) X → Calls Try.prog 8 #[.agg #[.int .i64 rc, .int .i64 rs, .slice rar rnr rkr, .slice rbr rmr rlr], .int .i64 1] X fun e w' => e = .returned (.int .i64 q) ∧ Below X.heap.size X w'))
    (hq0 : ¬ q < 0) :
    Calls Try.prog 3 #[.int .i64 stt] w fun e w' => e = .returned (.bool true) ∧ Below w.heap.size w w' := by
  have KW : Hid (Below w.heap.size w w) := Below.refl _ _
  have SW : Hid (w.heap.size ≤ w.heap.size) := Nat.le_refl _
  go_enter Try.func3, Try.ntmps3
  replace HF := hidL (HF.out )
  replace HG := hidL (HG.out )
  replace HEQ := hidL (HEQ.out )
  replace HMR := hidL (HMR.out )
  replace HHR := hidL (HHR.out )
  go_wp2_with fail
  refine (HF.out _ KW.out).mono ?_
  rintro e0 w1 ⟨⟨ras, rns, rks, rbs, rms, rls, rfl, cr⟩, hb⟩
  have K2 : Hid (Below w.heap.size w w1) := KW.out.trans (hb.mono KW.out.size)
  clear KW hb
  obtain ⟨l4, hl4⟩ : ∃ n, w.heap.size = n := ⟨_, rfl⟩
  obtain ⟨h5, hh5⟩ : ∃ n, w1.heap.size = n := ⟨_, rfl⟩
  have F3 : Hid (At l4 h5 (CR ras rns rks rbs rms rls) w1) := by rw [← hl4, ← hh5]; exact cr
  clear cr hl4 hh5
  obtain ⟨V7, hV7⟩ : ∃ V, V = w1.alloc (.cells #[.int .i64 rc, .int .i64 rs, .slice ras rns rks, .slice rbs rms rls] 27) := ⟨_, rfl⟩
  have HV7 : Hid (V7 = w1.alloc (.cells #[.int .i64 rc, .int .i64 rs, .slice ras rns rks, .slice rbs rms rls] 27)) := hV7
  have ab : Below w1.heap.size w1 V7 := by rw [hV7]; exact (Below.refl _ _).alloc (Nat.le_refl _) _
  have F8 : Hid (At w1.heap.size (w1.heap.size + 1) (Bx w1.heap.size [.int .i64 rc, .int .i64 rs, .slice ras rns rks, .slice rbs rms rls]) V7) := by rw [hV7]; exact Bx.new _ _ _
  have O9 : Hid (h5 ≤ w1.heap.size ∧ w.heap.size ≤ w1.heap.size) := ⟨F3.out.le, K2.out.size⟩
  have K10 : Hid (Below w.heap.size w V7) := K2.out.trans (ab.mono K2.out.size)
  have F11 : Hid (At l4 h5 (CR ras rns rks rbs rms rls) V7) := F3.out.keep ab
  clear K2 F3
  clear ab hV7
  clear HF
  go_wp2_with fail
  rw [← HV7.out]
  clear HV7
  generalize w1.heap.size = x12 at *
  refine (HG.out _  K10.out ).mono ?_
  rintro e0 w13 ⟨⟨rag, rng, rkg, rbg, rmg, rlg, rfl, cr⟩, hb⟩
  obtain ⟨l14, hl14⟩ : ∃ n, V7.heap.size = n := ⟨_, rfl⟩
  obtain ⟨h15, hh15⟩ : ∃ n, w13.heap.size = n := ⟨_, rfl⟩
  have O16 : Hid (h5 ≤ l14 ∧ (x12 + 1) ≤ l14 ∧ w.heap.size ≤ l14 ∧ l14 ≤ h15) := ⟨(by rw [← hl14]; exact F11.out.le), (by rw [← hl14]; exact F8.out.le), (by rw [← hl14]; exact K10.out.size), (by rw [← hl14, ← hh15]; exact hb.size)⟩
  have F17 : Hid (At l14 h15 (CR rag rng rkg rbg rmg rlg) w13) := by rw [← hl14, ← hh15]; exact cr
  clear cr hl14 hh15
  have K18 : Hid (Below w.heap.size w w13) := K10.out.trans (hb.mono K10.out.size)
  have F19 : Hid (At l4 h5 (CR ras rns rks rbs rms rls) w13) := F11.out.keep hb
  have F20 : Hid (At x12 (x12 + 1) (Bx x12 [.int .i64 rc, .int .i64 rs, .slice ras rns rks, .slice rbs rms rls]) w13) := F8.out.keep hb
  clear K10 F11 F8 hb
  obtain ⟨V21, hV21⟩ : ∃ V, V = w13.alloc (.cells #[.int .i64 rc, .int .i64 rs, .slice rag rng rkg, .slice rbg rmg rlg] 27) := ⟨_, rfl⟩
  have HV21 : Hid (V21 = w13.alloc (.cells #[.int .i64 rc, .int .i64 rs, .slice rag rng rkg, .slice rbg rmg rlg] 27)) := hV21
  have ab : Below w13.heap.size w13 V21 := by rw [hV21]; exact (Below.refl _ _).alloc (Nat.le_refl _) _
  have F22 : Hid (At w13.heap.size (w13.heap.size + 1) (Bx w13.heap.size [.int .i64 rc, .int .i64 rs, .slice rag rng rkg, .slice rbg rmg rlg]) V21) := by rw [hV21]; exact Bx.new _ _ _
  have O23 : Hid (h5 ≤ w13.heap.size ∧ (x12 + 1) ≤ w13.heap.size ∧ h15 ≤ w13.heap.size ∧ w.heap.size ≤ w13.heap.size) := ⟨F19.out.le, F20.out.le, F17.out.le, K18.out.size⟩
  have K24 : Hid (Below w.heap.size w V21) := K18.out.trans (ab.mono K18.out.size)
  have F25 : Hid (At l4 h5 (CR ras rns rks rbs rms rls) V21) := F19.out.keep ab
  have F26 : Hid (At x12 (x12 + 1) (Bx x12 [.int .i64 rc, .int .i64 rs, .slice ras rns rks, .slice rbs rms rls]) V21) := F20.out.keep ab
  have F27 : Hid (At l14 h15 (CR rag rng rkg rbg rmg rlg) V21) := F17.out.keep ab
  clear K18 F19 F20 F17
  clear ab hV21
  have p0 := F22.out.val.1 0 _ rfl
  have p1 := F22.out.val.1 1 _ rfl
  have p2 := F22.out.val.1 2 _ rfl
  have p3 := F22.out.val.1 3 _ rfl
  have s0 := F26.out.val.1 0 _ rfl
  have s1 := F26.out.val.1 1 _ rfl
  have s2 := F26.out.val.1 2 _ rfl
  have s3 := F26.out.val.1 3 _ rfl
  rw [HV21.out] at p0 p1 p2 p3 s0 s1 s2 s3
  go_wp2_with fail
  rw [← HV21.out]
  clear HV21
  generalize w13.heap.size = x28 at *
  refine (HEQ.out _ _ _ _ _ _ _ _ _ _ _ _ _ _ _ _ _ F27.out F25.out).mono ?_
  rintro e0 w29 ⟨rfl, hb⟩
  clear p0 p1 p2 p3 s0 s1 s2 s3
  have K30 : Hid (Below w.heap.size w w29) := K24.out.trans (hb.mono K24.out.size)
  have F31 : Hid (At l4 h5 (CR ras rns rks rbs rms rls) w29) := F25.out.keep hb
  have F32 : Hid (At x12 (x12 + 1) (Bx x12 [.int .i64 rc, .int .i64 rs, .slice ras rns rks, .slice rbs rms rls]) w29) := F26.out.keep hb
  have F33 : Hid (At l14 h15 (CR rag rng rkg rbg rmg rlg) w29) := F27.out.keep hb
  have F34 : Hid (At x28 (x28 + 1) (Bx x28 [.int .i64 rc, .int .i64 rs, .slice rag rng rkg, .slice rbg rmg rlg]) w29) := F22.out.keep hb
  clear K24 F25 F26 F27 F22 hb
  have p0 := F34.out.val.1 0 _ rfl
  have p1 := F34.out.val.1 1 _ rfl
  have p2 := F34.out.val.1 2 _ rfl
  have p3 := F34.out.val.1 3 _ rfl
  go_wp2_with fail
  refine (HMR.out _ _ _ _ _ _ _ _ _ K30.out F33.out (by have := SW.out; have := O9.out; have := O16.out; have := O23.out; omega)).mono ?_
  rintro e0 w35 ⟨rfl, mr, hg, hb⟩
  clear p0 p1 p2 p3 F33
  have K36 : Hid (Below w.heap.size w w35) := K30.out.trans hb
  have F37 : Hid (At l4 h5 (CR ras rns rks rbs rms rls) w35) := F31.out.wi hg (by have := SW.out; have := O9.out; have := O16.out; have := O23.out; omega)
  have F38 : Hid (At x12 (x12 + 1) (Bx x12 [.int .i64 rc, .int .i64 rs, .slice ras rns rks, .slice rbs rms rls]) w35) := F32.out.wi hg (by have := SW.out; have := O9.out; have := O16.out; have := O23.out; omega)
  have F39 : Hid (At x28 (x28 + 1) (Bx x28 [.int .i64 rc, .int .i64 rs, .slice rag rng rkg, .slice rbg rmg rlg]) w35) := F34.out.wi hg (by have := SW.out; have := O9.out; have := O16.out; have := O23.out; omega)
  clear K30 F31 F32 F34 hg hb
  have F40 : Hid (At l14 h15 (MR rag rng rkg rbg rmg rlg) w35) := mr
  clear mr HMR
  have p0 := F39.out.val.1 0 _ rfl
  have p1 := F39.out.val.1 1 _ rfl
  have p2 := F39.out.val.1 2 _ rfl
  have p3 := F39.out.val.1 3 _ rfl
  go_wp2_with fail
  refine (HHR.out _ _ _ _ _ _ _ _ _ F40.out).mono ?_
  rintro e0 w41 ⟨rfl, hb⟩
  clear p0 p1 p2 p3
  have K42 : Hid (Below w.heap.size w w41) := K36.out.trans (hb.mono K36.out.size)
  have F43 : Hid (At l4 h5 (CR ras rns rks rbs rms rls) w41) := F37.out.keep hb
  have F44 : Hid (At x12 (x12 + 1) (Bx x12 [.int .i64 rc, .int .i64 rs, .slice ras rns rks, .slice rbs rms rls]) w41) := F38.out.keep hb
  have F45 : Hid (At x28 (x28 + 1) (Bx x28 [.int .i64 rc, .int .i64 rs, .slice rag rng rkg, .slice rbg rmg rlg]) w41) := F39.out.keep hb
  have F46 : Hid (At l14 h15 (MR rag rng rkg rbg rmg rlg) w41) := F40.out.keep hb
  clear K36 F37 F38 F39 F40 hb
  clear SW O9 O16 O23
  go_wp2_with fail
  refine (HG.out _ K42.out).mono ?_
  rintro e0 w47 ⟨⟨rah, rnh, rkh, rbh, rmh, rlh, rfl, cr⟩, hb⟩
  have K48 : Hid (Below w.heap.size w w47) := K42.out.trans (hb.mono K42.out.size)
  have F49 : Hid (At l4 h5 (CR ras rns rks rbs rms rls) w47) := F43.out.keep hb
  have F50 : Hid (At x12 (x12 + 1) (Bx x12 [.int .i64 rc, .int .i64 rs, .slice ras rns rks, .slice rbs rms rls]) w47) := F44.out.keep hb
  have F51 : Hid (At x28 (x28 + 1) (Bx x28 [.int .i64 rc, .int .i64 rs, .slice rag rng rkg, .slice rbg rmg rlg]) w47) := F45.out.keep hb
  have F52 : Hid (At l14 h15 (MR rag rng rkg rbg rmg rlg) w47) := F46.out.keep hb
  clear K42 F43 F44 F45 F46 hb
  obtain ⟨l54, hl54⟩ : ∃ n, w41.heap.size = n := ⟨_, rfl⟩
  obtain ⟨h55, hh55⟩ : ∃ n, w47.heap.size = n := ⟨_, rfl⟩
  have F53 : Hid (At l54 h55 (CR rah rnh rkh rbh rmh rlh) w47) := by rw [← hl54, ← hh55]; exact cr
  clear cr hl54 hh55
  obtain ⟨V57, hV57⟩ : ∃ V, V = w47.alloc (.cells #[.int .i64 rc, .int .i64 rs, .slice rah rnh rkh, .slice rbh rmh rlh] 27) := ⟨_, rfl⟩
  have HV57 : Hid (V57 = w47.alloc (.cells #[.int .i64 rc, .int .i64 rs, .slice rah rnh rkh, .slice rbh rmh rlh] 27)) := hV57
  have ab : Below w47.heap.size w47 V57 := by rw [hV57]; exact (Below.refl _ _).alloc (Nat.le_refl _) _
  have F58 : Hid (At w47.heap.size (w47.heap.size + 1) (Bx w47.heap.size [.int .i64 rc, .int .i64 rs, .slice rah rnh rkh, .slice rbh rmh rlh]) V57) := by rw [hV57]; exact Bx.new _ _ _
  have O59 : Hid (h5 ≤ w47.heap.size ∧ (x12 + 1) ≤ w47.heap.size ∧ (x28 + 1) ≤ w47.heap.size ∧ h15 ≤ w47.heap.size ∧ h55 ≤ w47.heap.size ∧ w.heap.size ≤ w47.heap.size) := ⟨F49.out.le, F50.out.le, F51.out.le, F52.out.le, F53.out.le, K48.out.size⟩
  have K60 : Hid (Below w.heap.size w V57) := K48.out.trans (ab.mono K48.out.size)
  have F61 : Hid (At l4 h5 (CR ras rns rks rbs rms rls) V57) := F49.out.keep ab
  have F62 : Hid (At x12 (x12 + 1) (Bx x12 [.int .i64 rc, .int .i64 rs, .slice ras rns rks, .slice rbs rms rls]) V57) := F50.out.keep ab
  have F63 : Hid (At x28 (x28 + 1) (Bx x28 [.int .i64 rc, .int .i64 rs, .slice rag rng rkg, .slice rbg rmg rlg]) V57) := F51.out.keep ab
  have F64 : Hid (At l14 h15 (MR rag rng rkg rbg rmg rlg) V57) := F52.out.keep ab
  have F65 : Hid (At l54 h55 (CR rah rnh rkh rbh rmh rlh) V57) := F53.out.keep ab
  clear K48 F49 F50 F51 F52 F53
  clear ab hV57
  clear HG
  have p0 := F58.out.val.1 0 _ rfl
  have p1 := F58.out.val.1 1 _ rfl
  have p2 := F58.out.val.1 2 _ rfl
  have p3 := F58.out.val.1 3 _ rfl
  have s0 := F62.out.val.1 0 _ rfl
  have s1 := F62.out.val.1 1 _ rfl
  have s2 := F62.out.val.1 2 _ rfl
  have s3 := F62.out.val.1 3 _ rfl
  rw [HV57.out] at p0 p1 p2 p3 s0 s1 s2 s3
  go_wp2_with fail
  rw [← HV57.out]
  clear HV57
  generalize w47.heap.size = x66 at *
  refine (HEQ.out _ _ _ _ _ _ _ _ _ _ _ _ _ _ _ _ _ F65.out F61.out).mono ?_
  rintro e0 w67 ⟨rfl, hb⟩
  clear p0 p1 p2 p3 s0 s1 s2 s3
  have K68 : Hid (Below w.heap.size w w67) := K60.out.trans (hb.mono K60.out.size)
  have F69 : Hid (At l4 h5 (CR ras rns rks rbs rms rls) w67) := F61.out.keep hb
  have F70 : Hid (At x12 (x12 + 1) (Bx x12 [.int .i64 rc, .int .i64 rs, .slice ras rns rks, .slice rbs rms rls]) w67) := F62.out.keep hb
  have F71 : Hid (At x28 (x28 + 1) (Bx x28 [.int .i64 rc, .int .i64 rs, .slice rag rng rkg, .slice rbg rmg rlg]) w67) := F63.out.keep hb
  have F72 : Hid (At l14 h15 (MR rag rng rkg rbg rmg rlg) w67) := F64.out.keep hb
  have F73 : Hid (At l54 h55 (CR rah rnh rkh rbh rmh rlh) w67) := F65.out.keep hb
  have F74 : Hid (At x66 (x66 + 1) (Bx x66 [.int .i64 rc, .int .i64 rs, .slice rah rnh rkh, .slice rbh rmh rlh]) w67) := F58.out.keep hb
  clear K60 F61 F62 F63 F64 F65 F58 hb
  have p0 := F71.out.val.1 0 _ rfl
  have p1 := F71.out.val.1 1 _ rfl
  have p2 := F71.out.val.1 2 _ rfl
  have p3 := F71.out.val.1 3 _ rfl
  go_wp2_with fail
  refine (HHR.out _ _ _ _ _ _ _ _ _ F72.out).mono ?_
  rintro e0 w75 ⟨rfl, hb⟩
  clear p0 p1 p2 p3
  have K76 : Hid (Below w.heap.size w w75) := K68.out.trans (hb.mono K68.out.size)
  have F77 : Hid (At l4 h5 (CR ras rns rks rbs rms rls) w75) := F69.out.keep hb
  have F78 : Hid (At x12 (x12 + 1) (Bx x12 [.int .i64 rc, .int .i64 rs, .slice ras rns rks, .slice rbs rms rls]) w75) := F70.out.keep hb
  have F79 : Hid (At x28 (x28 + 1) (Bx x28 [.int .i64 rc, .int .i64 rs, .slice rag rng rkg, .slice rbg rmg rlg]) w75) := F71.out.keep hb
  have F80 : Hid (At l14 h15 (MR rag rng rkg rbg rmg rlg) w75) := F72.out.keep hb
  have F81 : Hid (At l54 h55 (CR rah rnh rkh rbh rmh rlh) w75) := F73.out.keep hb
  have F82 : Hid (At x66 (x66 + 1) (Bx x66 [.int .i64 rc, .int .i64 rs, .slice rah rnh rkh, .slice rbh rmh rlh]) w75) := F74.out.keep hb
  clear K68 F69 F70 F71 F72 F73 F74 hb
  go_wp2_with fail
  go_ret
  exact ⟨rfl, K76.out⟩
end Go.Proofs.Ytjdkkfbijneedaa
