/-
  Texts of one claim, one behind the other.
-/
import Derived.ChangeArms
import Derived.JoinedCond
import Derived.MakeChecks
import Derived.ProofKit
import Derived.Test.YtkchefbhpbpanaaGreatDoorRows
import Derived.Test.YtkchefbhpbpanaaGreatDoorMgD
/-
  ExpireWaiters, by the model and by the program.
-/
namespace Go.Proofs.YtkchefbhpbpanaaGreatDoor
open Go.ChangeShapes Go.WideShapes Go.ChangeAt Go.RowKit Go.Sort
set_option maxRecDepth 100000 in
set_option maxHeartbeats 16000000 in
theorem specExpire_any (w : World) (x : Fl) (r : FlR) (now : Int) (hf : FlFit x) (hi : FlIn w x r) :
    Calls Tryz.prog 17 #[.agg #[.int .i64 x.id, .string x.key, .bool x.bk, .bool x.ot, .int .i64 x.du, .bool x.dm, .string x.m, .string x.h, .string x.p, .slice r.ha x.hs.length r.hc, .slice r.wa x.ws.length r.wc], .int .i64 now] w fun e w' => ExRes x now w w' e ∧ Below w.heap.size w w' := by
  obtain ⟨W, hW⟩ : ∃ W, W = (w.alloc (.cells #[.int .i64 x.id, .string x.key, .bool x.bk, .bool x.ot, .int .i64 x.du, .bool x.dm, .string x.m, .string x.h, .string x.p, .slice r.ha x.hs.length r.hc, .slice r.wa x.ws.length r.wc] 36)).alloc (.cells #[.int .i64 0, .int .i64 0, .string ⟨#[]⟩, .bool false, .bool false, .int .i64 0, .bool false, .string ⟨#[]⟩, .string ⟨#[]⟩, .string ⟨#[]⟩, .slice none 0 0, .slice none 0 0, .slice none 0 0] 49) := ⟨_, rfl⟩
  have HW : Hid (W = (w.alloc (.cells #[.int .i64 x.id, .string x.key, .bool x.bk, .bool x.ot, .int .i64 x.du, .bool x.dm, .string x.m, .string x.h, .string x.p, .slice r.ha x.hs.length r.hc, .slice r.wa x.ws.length r.wc] 36)).alloc (.cells #[.int .i64 0, .int .i64 0, .string ⟨#[]⟩, .bool false, .bool false, .int .i64 0, .bool false, .string ⟨#[]⟩, .string ⟨#[]⟩, .string ⟨#[]⟩, .slice none 0 0, .slice none 0 0, .slice none 0 0] 49)) := hW
  have KW := hidL (show Below w.heap.size w W by rw [hW]; exact ((Below.refl _ _).alloc (Nat.le_refl _) _).alloc (by simp) _)
  have FB := hidL (show At w.heap.size (w.heap.size + 1) (Bx w.heap.size [.int .i64 x.id, .string x.key, .bool x.bk, .bool x.ot, .int .i64 x.du, .bool x.dm, .string x.m, .string x.h, .string x.p, .slice r.ha x.hs.length r.hc, .slice r.wa x.ws.length r.wc]) W by rw [hW]; exact (Bx.new _ [.int .i64 x.id, .string x.key, .bool x.bk, .bool x.ot, .int .i64 x.du, .bool x.dm, .string x.m, .string x.h, .string x.p, .slice r.ha x.hs.length r.hc, .slice r.wa x.ws.length r.wc] _).al _)
  have FZ := hidL (show At (w.heap.size + 1) (w.heap.size + 1 + 1) (Bx (w.heap.size + 1) [.int .i64 0, .int .i64 0, .string ⟨#[]⟩, .bool false, .bool false, .int .i64 0, .bool false, .string ⟨#[]⟩, .string ⟨#[]⟩, .string ⟨#[]⟩, .slice none 0 0, .slice none 0 0, .slice none 0 0]) W by rw [hW]; exact Bx.newAt (by simp) [.int .i64 0, .int .i64 0, .string ⟨#[]⟩, .bool false, .bool false, .int .i64 0, .bool false, .string ⟨#[]⟩, .string ⟨#[]⟩, .string ⟨#[]⟩, .slice none 0 0, .slice none 0 0, .slice none 0 0] _)
  have SW := hidL (show w.heap.size + 2 ≤ W.heap.size by rw [hW]; simp)
  have CF : Hid (∀ X, Below w.heap.size w X → Calls Tryz.prog 26 #[.agg #[.int .i64 x.id, .string x.key, .bool x.bk, .bool x.ot, .int .i64 x.du, .bool x.dm, .string x.m, .string x.h, .string x.p, .slice r.ha x.hs.length r.hc, .slice r.wa x.ws.length r.wc]] X fun e w' => e = .returned (.int .i64 (flC x)) ∧ Below X.heap.size X w') := fun X hX => specFl_any X x r hf (hi.keep hX)
  have CT : Hid (∀ x w, Calls Tryz.prog 38 #[.int .i64 x] w fun r w' => r = .returned (.bool (timeB x)) ∧ w' = w) := l1Time_all
  have CC : Hid (∀ X, Below w.heap.size w X → At w.heap.size (w.heap.size + 1) (Bx w.heap.size [.int .i64 x.id, .string x.key, .bool x.bk, .bool x.ot, .int .i64 x.du, .bool x.dm, .string x.m, .string x.h, .string x.p, .slice r.ha x.hs.length r.hc, .slice r.wa x.ws.length r.wc]) X → Calls Tryz.prog 41 #[.pointer (some ⟨w.heap.size, 0, none⟩)] X fun e w' => (∃ va vc ua uc, e = .returned (.agg #[.int .i64 x.id, .string x.key, .bool x.bk, .bool x.ot, .int .i64 x.du, .bool x.dm, .string x.m, .string x.h, .string x.p, .slice va x.hs.length vc, .slice ua x.ws.length uc]) ∧ At X.heap.size w'.heap.size (FR x.hs x.ws va x.hs.length vc ua x.ws.length uc) w') ∧ Below X.heap.size X w') := fun X hX c => l12Copy_any X w.heap.size x r hf.h hf.w (hi.keep hX) c
  have N10 : Hid (flC x = 0 → x.ws.length ≤ 10) := fun h => (flC_zero h).2.2.2.2.2.2.1
  obtain ⟨Q, hQ⟩ : ∃ Q : World → Ending → Prop, Q = fun w' e => ExRes x now w w' e := ⟨_, rfl⟩
  have QB : Hid (∀ w' d, exC (flC x) now = d → ¬ d = 0 → w.heap.size ≤ w'.heap.size → Q w' (.returned (.agg #[.int .i64 d, .int .i64 0, .string ⟨#[]⟩, .bool false, .bool false, .int .i64 0, .bool false, .string ⟨#[]⟩, .string ⟨#[]⟩, .string ⟨#[]⟩, .slice none 0 0, .slice none 0 0, .slice none 0 0]))) := fun w' d h1 h2 h3 => by rw [hQ]; exact ExRes.bad h1 h2 h3
  have QG : Hid (exC (flC x) now = 0 → ∀ w' ra rn rk wa wn wk ga gn gk, At w.heap.size w'.heap.size (RW x.hs (leftR now x.ws) (goneR now x.ws) ra rn rk wa wn wk ga gn gk) w' → Q w' (.returned (.agg #[.int .i64 0, .int .i64 x.id, .string x.key, .bool x.bk, .bool x.ot, .int .i64 x.du, .bool x.dm, .string x.m, .string x.h, .string x.p, .slice ra rn rk, .slice wa wn wk, .slice ga gn gk]))) := fun h w' ra rn rk wa wn wk ga gn gk k => by rw [hQ]; exact ExRes.good h k
  refine Calls.mono (R := fun e w' => Q w' e ∧ Below w.heap.size w w') ?_ (fun e w' h => by rw [hQ] at h; exact h)
  clear hQ hW hi
  have E1 : Hid (¬ flC x = 0 → exC (flC x) now = flC x) := exC_fl
  have E2 : Hid (flC x = 0 → timeB now = false → exC (flC x) now = 3) := exC_time
  have E3 : Hid (flC x = 0 → timeB now = true → exC (flC x) now = 0) := exC_ok
  have hwl := hf.w
  have LN := hidL (leftR_len now x.ws)
  clear hf
  obtain ⟨k, hk⟩ : ∃ k, x.ws.length = k := ⟨_, rfl⟩
  have HK : Hid (x.ws.length = k) := hk
  obtain ⟨n, hn⟩ : ∃ n, x.hs.length = n := ⟨_, rfl⟩
  have HN : Hid (x.hs.length = n) := hn
  rw [hk] at hwl LN N10
  rw [hk, hn] at HW FB CF CC ⊢
  clear hk hn
  generalize exC (flC x) now = ec at *
  generalize flC x = fc at *
  go_enter Tryz.func17, Tryz.ntmps17
  go_upto_region 1 with fail
  rw [← HW.out]
  clear HW
  have LB := hidL FB.out.val.1
  go_wp2_with (first | ((with_reducible refine flI_load (b := w.heap.size) (vs := [.int .i64 x.id, .string x.key, .bool x.bk, .bool x.ot, .int .i64 x.du, .bool x.dm, .string x.m, .string x.h, .string x.p, .slice r.ha n r.hc, .slice r.wa k r.wc]) ?_ ?_ LB.out ?_); exact rfl; exact rfl))
  refine (CF.out W KW.out).mono ?_
  rintro e w1 ⟨rfl, hb⟩
  have s0 := Nat.le_trans SW.out hb.size
  have K1 := hidL (KW.out.trans (hb.mono KW.out.size))
  replace FB := hidL (FB.out.keep hb)
  replace FZ := hidL (FZ.out.keep hb)
  clear hb LB KW CF SW
  have LZ := hidL FZ.out.val.1
  have LZf := hidL FZ.out.val.2
  by_cases c0 : fc = 0
  · subst c0
    go_wp2_with fail
    refine (CT.out now _).mono ?_
    rintro r0 v0 ⟨rfl, rfl⟩
    cases ht : timeB now
    · go_wp2_with (first | ((with_reducible refine wrR_put (b := w.heap.size + 1) (zs := [.int .i64 0, .int .i64 0, .string ⟨#[]⟩, .bool false, .bool false, .int .i64 0, .bool false, .string ⟨#[]⟩, .string ⟨#[]⟩, .string ⟨#[]⟩, .slice none 0 0, .slice none 0 0, .slice none 0 0]) (vs := [.int .i64 3, .int .i64 0, .string ⟨#[]⟩, .bool false, .bool false, .int .i64 0, .bool false, .string ⟨#[]⟩, .string ⟨#[]⟩, .string ⟨#[]⟩, .slice none 0 0, .slice none 0 0, .slice none 0 0]) ?_ ?_ ?_ ?_ ?_ LZ.out LZf.out ?_); exact rfl; exact rfl; exact rfl; exact rfl; exact rfl))
      obtain ⟨VF, hVF⟩ : ∃ V, V = putAll v0 (w.heap.size + 1) 0 [.int .i64 3, .int .i64 0, .string ⟨#[]⟩, .bool false, .bool false, .int .i64 0, .bool false, .string ⟨#[]⟩, .string ⟨#[]⟩, .string ⟨#[]⟩, .slice none 0 0, .slice none 0 0, .slice none 0 0] := ⟨_, rfl⟩
      rw [← hVF]
      have R : At (w.heap.size + 1) (w.heap.size + 1 + 1) (Bx (w.heap.size + 1) [.int .i64 3, .int .i64 0, .string ⟨#[]⟩, .bool false, .bool false, .int .i64 0, .bool false, .string ⟨#[]⟩, .string ⟨#[]⟩, .string ⟨#[]⟩, .slice none 0 0, .slice none 0 0, .slice none 0 0]) VF := by rw [hVF]; exact Bx.putAll FZ.out [.int .i64 3, .int .i64 0, .string ⟨#[]⟩, .bool false, .bool false, .int .i64 0, .bool false, .string ⟨#[]⟩, .string ⟨#[]⟩, .string ⟨#[]⟩, .slice none 0 0, .slice none 0 0, .slice none 0 0] rfl
      have KF : Below w.heap.size w VF := by rw [hVF]; exact below_putAll (by omega) [.int .i64 3, .int .i64 0, .string ⟨#[]⟩, .bool false, .bool false, .int .i64 0, .bool false, .string ⟨#[]⟩, .string ⟨#[]⟩, .string ⟨#[]⟩, .slice none 0 0, .slice none 0 0, .slice none 0 0] 0 K1.out
      clear hVF
      have rz0 := R.val.1 0 _ rfl
      have rz1 := R.val.1 1 _ rfl
      have rz2 := R.val.1 2 _ rfl
      have rz3 := R.val.1 3 _ rfl
      have rz4 := R.val.1 4 _ rfl
      have rz5 := R.val.1 5 _ rfl
      have rz6 := R.val.1 6 _ rfl
      have rz7 := R.val.1 7 _ rfl
      have rz8 := R.val.1 8 _ rfl
      have rz9 := R.val.1 9 _ rfl
      have rz10 := R.val.1 10 _ rfl
      have rz11 := R.val.1 11 _ rfl
      have rz12 := R.val.1 12 _ rfl
      refine bodyPost_ret (v := .agg #[.int .i64 3, .int .i64 0, .string ⟨#[]⟩, .bool false, .bool false, .int .i64 0, .bool false, .string ⟨#[]⟩, .string ⟨#[]⟩, .string ⟨#[]⟩, .slice none 0 0, .slice none 0 0, .slice none 0 0]) ?_ rfl ⟨QB.out VF 3 (E2.out (by simp) ht) (by decide) KF.size, KF⟩
      simp [results, Tryz.results17, go_sem, rz0, rz1, rz2, rz3, rz4, rz5, rz6, rz7, rz8, rz9, rz10, rz11, rz12]
    have h10 := N10.out (by simp)
    have EC := hidL (E3.out (by simp) ht)
    replace QG := hidL (QG.out EC.out)
    clear ht E1 E2 E3 QB N10
    go_wp2_with fail
    refine (CC.out _ K1.out FB.out).mono ?_
    rintro e w2 ⟨⟨va, vc, ua, uc, rfl, cr⟩, hb⟩
    obtain ⟨V, hV⟩ : ∃ V, V = w2.alloc (.cells #[.int .i64 x.id, .string x.key, .bool x.bk, .bool x.ot, .int .i64 x.du, .bool x.dm, .string x.m, .string x.h, .string x.p, .slice va n vc, .slice ua k uc] 36) := ⟨_, rfl⟩
    have HV : Hid (V = w2.alloc (.cells #[.int .i64 x.id, .string x.key, .bool x.bk, .bool x.ot, .int .i64 x.du, .bool x.dm, .string x.m, .string x.h, .string x.p, .slice va n vc, .slice ua k uc] 36)) := hV
    have aV : Below w2.heap.size w2 V := by rw [hV]; exact (Below.refl _ _).alloc (Nat.le_refl _) _
    have s1 := hb.size
    have sV := aV.size
    have KV := hidL ((K1.out.trans (hb.mono K1.out.size)).trans (aV.mono (Nat.le_trans K1.out.size hb.size)))
    obtain ⟨O, hO⟩ : ∃ O, w2.heap.size = O := ⟨_, rfl⟩
    have FO := hidL (show At O (O + 1) (Bx O [.int .i64 x.id, .string x.key, .bool x.bk, .bool x.ot, .int .i64 x.du, .bool x.dm, .string x.m, .string x.h, .string x.p, .slice va n vc, .slice ua k uc]) V by rw [hV, ← hO]; exact Bx.new _ [.int .i64 x.id, .string x.key, .bool x.bk, .bool x.ot, .int .i64 x.du, .bool x.dm, .string x.m, .string x.h, .string x.p, .slice va n vc, .slice ua k uc] _)
    have FZ2 := hidL ((FZ.out.keep hb).keep aV)
    obtain ⟨eNK, l1, h1, l2, h2, b1, b2, bd, a1, a2⟩ := cr.val
    have A1 := hidL (a1.keep aV)
    have WI := hidL ((a2.keep aV).val.in.2)
    have OO := hidL (show _ ≤ l1 ∧ l1 ≤ h1 ∧ h1 ≤ O from ⟨b1.1, b1.2.1, by rw [← hO]; exact b1.2.2⟩)
    rw [hO] at s1 sV
    clear eNK hb cr aV hV CC FB FZ LZ LZf K1 a1 a2 b1 b2 bd
    go_upto_region 7 with (first | ((with_reducible refine flI_store (c' := #[.int .i64 x.id, .string x.key, .bool x.bk, .bool x.ot, .int .i64 x.du, .bool x.dm, .string x.m, .string x.h, .string x.p, .slice va n vc, .slice ua k uc]) ?_ ?_ ?_ ?_ ?_ ?_); exact rfl; exact rfl; exact rfl; exact rfl; exact rfl))
    rw [← HV.out]
    clear HV
    try rw [hO]
    go_wp2_with fail
    have CE := l12Expire_any V O (.int .i64 x.id) (.string x.key) (.bool x.bk) (.bool x.ot) (.int .i64 x.du) (.bool x.dm) (.string x.m) (.string x.h) (.string x.p) (.slice va n vc) ua uc x.ws now (by rw [HK.out]; exact h10) (by rw [HK.out]; exact FO.out) WI.out
    refine CE.mono ?_
    clear CE WI
    rintro e w3 ⟨la, lc, vg, rfl, fo, ol, og, ap, gb⟩
    obtain ⟨ga, gc, rfl, _, _⟩ := OwnWr.in og
    have FO3 := hidL fo
    have FZ3 := hidL (FZ2.out.gb gb (.inl (by omega)))
    have K3 := hidL (KV.out.trans (gbTo gb (by omega) KV.out.size))
    have sz3 := gb.size
    have a1 := A1.out.gb gb (.inl OO.out.2.2)
    have a2 := OwnWr.wl ol (b := w.heap.size) (by omega) (by omega)
    have a3 := OwnWr.wl og (b := w.heap.size) (by omega) (by omega)
    have AA := hidL (show _ ∧ _ ∧ _ from ⟨a1, a2, a3⟩)
    have B1 := hidL (show (w.heap.size ≤ l1 ∧ h1 ≤ w3.heap.size) ∧ _ ∧ _ from ⟨⟨by have := OO.out; omega, by have := OO.out; omega⟩, row_stretch ol (b := w.heap.size) (by omega) (by omega), row_stretch og (b := w.heap.size) (by omega) (by omega)⟩)
    have B2 := hidL (show (w.heap.size + 2 ≤ l1 ∨ h1 = w.heap.size) ∧ _ ∧ _ from ⟨.inl (by have := OO.out; omega), s_off (b := w.heap.size) (c := w.heap.size + 2) (fun q hq => by have := row_ge ol q hq; omega), s_off (b := w.heap.size) (c := w.heap.size + 2) (fun q hq => by have := row_ge og q hq; omega)⟩)
    have t2 := s_off (v := .slice la (leftR now x.ws).length lc) (b := w.heap.size) (c := V.heap.size) (fun q hq => row_ge ol q hq)
    have t3 := s_off (v := .slice ga (goneR now x.ws).length gc) (b := w.heap.size) (c := V.heap.size) (fun q hq => row_ge og q hq)
    have B3 := hidL (show (h1 ≤ sLo (.slice la (leftR now x.ws).length lc) w.heap.size ∨ sHi (.slice la (leftR now x.ws).length lc) w.heap.size ≤ l1) ∧ (h1 ≤ sLo (.slice ga (goneR now x.ws).length gc) w.heap.size ∨ sHi (.slice ga (goneR now x.ws).length gc) w.heap.size ≤ l1) ∧ _ from ⟨by have := OO.out; omega, by have := OO.out; omega, s_apart (b := w.heap.size) (fun q hq e => ap q hq e) (fun q hq => by have := row_ge ol q hq; omega) (fun q hq => by have := row_ge og q hq; omega)⟩)
    clear a1 a2 a3 t2 t3 ap
    have LZ := hidL FZ3.out.val.1
    have LZf := hidL FZ3.out.val.2
    have LO := hidL FO3.out.val.1
    clear fo ol og gb FZ2 FO KV
    go_wp2_with (first | ((with_reducible refine flI_load (b := O) (vs := [.int .i64 x.id, .string x.key, .bool x.bk, .bool x.ot, .int .i64 x.du, .bool x.dm, .string x.m, .string x.h, .string x.p, .slice va n vc, .slice la (leftR now x.ws).length lc]) ?_ ?_ LO.out ?_); exact rfl; exact rfl) | ((with_reducible refine wrR_put (b := w.heap.size + 1) (zs := [.int .i64 0, .int .i64 0, .string ⟨#[]⟩, .bool false, .bool false, .int .i64 0, .bool false, .string ⟨#[]⟩, .string ⟨#[]⟩, .string ⟨#[]⟩, .slice none 0 0, .slice none 0 0, .slice none 0 0]) (vs := [.int .i64 0, .int .i64 x.id, .string x.key, .bool x.bk, .bool x.ot, .int .i64 x.du, .bool x.dm, .string x.m, .string x.h, .string x.p, .slice va n vc, .slice la (leftR now x.ws).length lc, .slice ga (goneR now x.ws).length gc]) ?_ ?_ ?_ ?_ ?_ LZ.out LZf.out ?_); exact rfl; exact rfl; exact rfl; exact rfl; exact rfl))
    obtain ⟨VF, hVF⟩ : ∃ V, V = putAll w3 (w.heap.size + 1) 0 [.int .i64 0, .int .i64 x.id, .string x.key, .bool x.bk, .bool x.ot, .int .i64 x.du, .bool x.dm, .string x.m, .string x.h, .string x.p, .slice va n vc, .slice la (leftR now x.ws).length lc, .slice ga (goneR now x.ws).length gc] := ⟨_, rfl⟩
    rw [← hVF]
    have R : At (w.heap.size + 1) (w.heap.size + 1 + 1) (Bx (w.heap.size + 1) [.int .i64 0, .int .i64 x.id, .string x.key, .bool x.bk, .bool x.ot, .int .i64 x.du, .bool x.dm, .string x.m, .string x.h, .string x.p, .slice va n vc, .slice la (leftR now x.ws).length lc, .slice ga (goneR now x.ws).length gc]) VF := by rw [hVF]; exact Bx.putAll FZ3.out [.int .i64 0, .int .i64 x.id, .string x.key, .bool x.bk, .bool x.ot, .int .i64 x.du, .bool x.dm, .string x.m, .string x.h, .string x.p, .slice va n vc, .slice la (leftR now x.ws).length lc, .slice ga (goneR now x.ws).length gc] rfl
    have KF : Below w.heap.size w VF := by rw [hVF]; exact below_putAll (by omega) [.int .i64 0, .int .i64 x.id, .string x.key, .bool x.bk, .bool x.ot, .int .i64 x.du, .bool x.dm, .string x.m, .string x.h, .string x.p, .slice va n vc, .slice la (leftR now x.ws).length lc, .slice ga (goneR now x.ws).length gc] 0 K3.out
    have eA : _ ∧ _ ∧ _ := ⟨At.putAll (X := w3) (b := w.heap.size + 1) (by have := B2.out.1; omega) [.int .i64 0, .int .i64 x.id, .string x.key, .bool x.bk, .bool x.ot, .int .i64 x.du, .bool x.dm, .string x.m, .string x.h, .string x.p, .slice va n vc, .slice la (leftR now x.ws).length lc, .slice ga (goneR now x.ws).length gc] 0 AA.out.1, At.putAll (X := w3) (b := w.heap.size + 1) (by have := B2.out.2.1; omega) [.int .i64 0, .int .i64 x.id, .string x.key, .bool x.bk, .bool x.ot, .int .i64 x.du, .bool x.dm, .string x.m, .string x.h, .string x.p, .slice va n vc, .slice la (leftR now x.ws).length lc, .slice ga (goneR now x.ws).length gc] 0 AA.out.2.1, At.putAll (X := w3) (b := w.heap.size + 1) (by have := B2.out.2.2; omega) [.int .i64 0, .int .i64 x.id, .string x.key, .bool x.bk, .bool x.ot, .int .i64 x.du, .bool x.dm, .string x.m, .string x.h, .string x.p, .slice va n vc, .slice la (leftR now x.ws).length lc, .slice ga (goneR now x.ws).length gc] 0 AA.out.2.2⟩
    rw [← hVF] at eA
    obtain ⟨d1, d2, d3⟩ := eA
    have g1 := B1.out
    have g3 := B3.out
    have i1 := (d1.val.in rfl).1
    have i2 := d2.val.in.1
    have i3 := d3.val.in.1
    clear hVF
    have rz0 := R.val.1 0 _ rfl
    have rz1 := R.val.1 1 _ rfl
    have rz2 := R.val.1 2 _ rfl
    have rz3 := R.val.1 3 _ rfl
    have rz4 := R.val.1 4 _ rfl
    have rz5 := R.val.1 5 _ rfl
    have rz6 := R.val.1 6 _ rfl
    have rz7 := R.val.1 7 _ rfl
    have rz8 := R.val.1 8 _ rfl
    have rz9 := R.val.1 9 _ rfl
    have rz10 := R.val.1 10 _ rfl
    have rz11 := R.val.1 11 _ rfl
    have rz12 := R.val.1 12 _ rfl
    refine bodyPost_ret (v := .agg #[.int .i64 0, .int .i64 x.id, .string x.key, .bool x.bk, .bool x.ot, .int .i64 x.du, .bool x.dm, .string x.m, .string x.h, .string x.p, .slice va n vc, .slice la (leftR now x.ws).length lc, .slice ga (goneR now x.ws).length gc]) ?_ rfl ⟨QG.out VF _ _ _ _ _ _ _ _ _ ⟨Nat.le_refl _, RW.dep _ _ _ _ _ _ _ _ _ _ _ _ _ _, ⟨i1, i2, i3⟩, _, _, _, _, _, _, ⟨g1.1.1, OO.out.2.1, d1.le⟩, ⟨g1.2.1.1, s_le _ _, d2.le⟩, ⟨g1.2.2.1, s_le _ _, d3.le⟩, g3, d1, d2, d3⟩, KF⟩
    simp [results, Tryz.results17, go_sem, rz0, rz1, rz2, rz3, rz4, rz5, rz6, rz7, rz8, rz9, rz10, rz11, rz12]
  · go_wp2_with (first | ((with_reducible refine wrR_put (b := w.heap.size + 1) (zs := [.int .i64 0, .int .i64 0, .string ⟨#[]⟩, .bool false, .bool false, .int .i64 0, .bool false, .string ⟨#[]⟩, .string ⟨#[]⟩, .string ⟨#[]⟩, .slice none 0 0, .slice none 0 0, .slice none 0 0]) (vs := [.int .i64 fc, .int .i64 0, .string ⟨#[]⟩, .bool false, .bool false, .int .i64 0, .bool false, .string ⟨#[]⟩, .string ⟨#[]⟩, .string ⟨#[]⟩, .slice none 0 0, .slice none 0 0, .slice none 0 0]) ?_ ?_ ?_ ?_ ?_ LZ.out LZf.out ?_); exact rfl; exact rfl; exact rfl; exact rfl; exact rfl))
    obtain ⟨VF, hVF⟩ : ∃ V, V = putAll w1 (w.heap.size + 1) 0 [.int .i64 fc, .int .i64 0, .string ⟨#[]⟩, .bool false, .bool false, .int .i64 0, .bool false, .string ⟨#[]⟩, .string ⟨#[]⟩, .string ⟨#[]⟩, .slice none 0 0, .slice none 0 0, .slice none 0 0] := ⟨_, rfl⟩
    rw [← hVF]
    have R : At (w.heap.size + 1) (w.heap.size + 1 + 1) (Bx (w.heap.size + 1) [.int .i64 fc, .int .i64 0, .string ⟨#[]⟩, .bool false, .bool false, .int .i64 0, .bool false, .string ⟨#[]⟩, .string ⟨#[]⟩, .string ⟨#[]⟩, .slice none 0 0, .slice none 0 0, .slice none 0 0]) VF := by rw [hVF]; exact Bx.putAll FZ.out [.int .i64 fc, .int .i64 0, .string ⟨#[]⟩, .bool false, .bool false, .int .i64 0, .bool false, .string ⟨#[]⟩, .string ⟨#[]⟩, .string ⟨#[]⟩, .slice none 0 0, .slice none 0 0, .slice none 0 0] rfl
    have KF : Below w.heap.size w VF := by rw [hVF]; exact below_putAll (by omega) [.int .i64 fc, .int .i64 0, .string ⟨#[]⟩, .bool false, .bool false, .int .i64 0, .bool false, .string ⟨#[]⟩, .string ⟨#[]⟩, .string ⟨#[]⟩, .slice none 0 0, .slice none 0 0, .slice none 0 0] 0 K1.out
    clear hVF
    have rz0 := R.val.1 0 _ rfl
    have rz1 := R.val.1 1 _ rfl
    have rz2 := R.val.1 2 _ rfl
    have rz3 := R.val.1 3 _ rfl
    have rz4 := R.val.1 4 _ rfl
    have rz5 := R.val.1 5 _ rfl
    have rz6 := R.val.1 6 _ rfl
    have rz7 := R.val.1 7 _ rfl
    have rz8 := R.val.1 8 _ rfl
    have rz9 := R.val.1 9 _ rfl
    have rz10 := R.val.1 10 _ rfl
    have rz11 := R.val.1 11 _ rfl
    have rz12 := R.val.1 12 _ rfl
    refine bodyPost_ret (v := .agg #[.int .i64 fc, .int .i64 0, .string ⟨#[]⟩, .bool false, .bool false, .int .i64 0, .bool false, .string ⟨#[]⟩, .string ⟨#[]⟩, .string ⟨#[]⟩, .slice none 0 0, .slice none 0 0, .slice none 0 0]) ?_ rfl ⟨QB.out VF fc (E1.out c0) c0 KF.size, KF⟩
    simp [results, Tryz.results17, go_sem, rz0, rz1, rz2, rz3, rz4, rz5, rz6, rz7, rz8, rz9, rz10, rz11, rz12]
end Go.Proofs.YtkchefbhpbpanaaGreatDoor
/-
  ExpireWaiters, by the model and by the program.
-/
namespace Go.Proofs.YtkchefbhpbpanaaGreatDoor
open Go.ChangeShapes Go.WideShapes Go.ChangeAt Go.RowKit Go.Sort
set_option maxRecDepth 100000 in
set_option maxHeartbeats 16000000 in
theorem implExpire_any (E : Errs) (w : World) (x : Fl) (r : FlR) (now : Int) (hf : FlFit x) (hset : SetIs w) (hE : ErrsIs w E) (hi : FlIn w x r) :
    Calls Tryz.prog 18 #[.agg #[.int .i64 x.id, .string x.key, .bool x.bk, .bool x.ot, .int .i64 x.du, .bool x.dm, .string x.m, .string x.h, .string x.p, .slice r.ha x.hs.length r.hc, .slice r.wa x.ws.length r.wc], .int .i64 now] w fun e w' => ExRes x now w w' e ∧ Below w.heap.size w w' := by
  obtain ⟨W, hW⟩ : ∃ W, W = (w.alloc (.cells #[.int .i64 x.id, .string x.key, .bool x.bk, .bool x.ot, .int .i64 x.du, .bool x.dm, .string x.m, .string x.h, .string x.p, .slice r.ha x.hs.length r.hc, .slice r.wa x.ws.length r.wc] 36)).alloc (.cells #[.int .i64 0, .int .i64 0, .string ⟨#[]⟩, .bool false, .bool false, .int .i64 0, .bool false, .string ⟨#[]⟩, .string ⟨#[]⟩, .string ⟨#[]⟩, .slice none 0 0, .slice none 0 0, .slice none 0 0] 49) := ⟨_, rfl⟩
  have HW : Hid (W = (w.alloc (.cells #[.int .i64 x.id, .string x.key, .bool x.bk, .bool x.ot, .int .i64 x.du, .bool x.dm, .string x.m, .string x.h, .string x.p, .slice r.ha x.hs.length r.hc, .slice r.wa x.ws.length r.wc] 36)).alloc (.cells #[.int .i64 0, .int .i64 0, .string ⟨#[]⟩, .bool false, .bool false, .int .i64 0, .bool false, .string ⟨#[]⟩, .string ⟨#[]⟩, .string ⟨#[]⟩, .slice none 0 0, .slice none 0 0, .slice none 0 0] 49)) := hW
  have KW := hidL (show Below w.heap.size w W by rw [hW]; exact ((Below.refl _ _).alloc (Nat.le_refl _) _).alloc (by simp) _)
  have FB := hidL (show At w.heap.size (w.heap.size + 1) (Bx w.heap.size [.int .i64 x.id, .string x.key, .bool x.bk, .bool x.ot, .int .i64 x.du, .bool x.dm, .string x.m, .string x.h, .string x.p, .slice r.ha x.hs.length r.hc, .slice r.wa x.ws.length r.wc]) W by rw [hW]; exact (Bx.new _ [.int .i64 x.id, .string x.key, .bool x.bk, .bool x.ot, .int .i64 x.du, .bool x.dm, .string x.m, .string x.h, .string x.p, .slice r.ha x.hs.length r.hc, .slice r.wa x.ws.length r.wc] _).al _)
  have FZ := hidL (show At (w.heap.size + 1) (w.heap.size + 1 + 1) (Bx (w.heap.size + 1) [.int .i64 0, .int .i64 0, .string ⟨#[]⟩, .bool false, .bool false, .int .i64 0, .bool false, .string ⟨#[]⟩, .string ⟨#[]⟩, .string ⟨#[]⟩, .slice none 0 0, .slice none 0 0, .slice none 0 0]) W by rw [hW]; exact Bx.newAt (by simp) [.int .i64 0, .int .i64 0, .string ⟨#[]⟩, .bool false, .bool false, .int .i64 0, .bool false, .string ⟨#[]⟩, .string ⟨#[]⟩, .string ⟨#[]⟩, .slice none 0 0, .slice none 0 0, .slice none 0 0] _)
  have SW := hidL (show w.heap.size + 2 ≤ W.heap.size by rw [hW]; simp)
  have CF : Hid (∀ X, Below w.heap.size w X → Calls Tryz.prog 25 #[.agg #[.int .i64 x.id, .string x.key, .bool x.bk, .bool x.ot, .int .i64 x.du, .bool x.dm, .string x.m, .string x.h, .string x.p, .slice r.ha x.hs.length r.hc, .slice r.wa x.ws.length r.wc]] X fun e w' => e = .returned (.int .i64 (flC x)) ∧ Below X.heap.size X w') := fun X hX => implFl_any E X x r hf (hset.below hX) (hE.below hX) (hi.keep hX)
  have CT : Hid (∀ x w, Calls Tryz.prog 56 #[.int .i64 x] w fun r w' => r = .returned (.bool (timeB x)) ∧ w' = w) := isTime_all
  have SM : Hid (flC x = 0 → ∀ r ∈ x.hs, r.name.size ≤ 1048576 ∧ r.value.size ≤ 1048576) := fun h r hr => by
    obtain ⟨_, h2⟩ := headsC_zero (reqC_zero (flC_zero h).2.2.2.2.1).2.1
    obtain ⟨i, hi2⟩ := List.mem_iff_getElem?.1 hr
    obtain ⟨y1, y2, _⟩ := faultH_zero (h2 i r hi2)
    have := hword_max y1; omega
  have CA : Hid (flC x = 0 → ∀ X, Below w.heap.size w X → Calls Tryz.prog 57 #[.slice r.wa x.ws.length r.wc, .int .i64 now] X fun e w' => ∃ vl vg, e = .returned (.tuple #[vl, vg]) ∧ XW X w' X.heap.size vl vg (leftR now x.ws) (goneR now x.ws)) := fun h X hX => waitersAt_any X r.wa r.wc x.ws now (flC_zero h).2.2.2.2.2.2.1 (hi.keep hX).k
  have CR : Hid (∀ X, Calls Tryz.prog 46 #[.agg #[.int .i64 x.id, .string x.key, .bool x.bk, .bool x.ot, .int .i64 x.du, .bool x.dm, .string x.m, .string x.h, .string x.p, .slice r.ha x.hs.length r.hc, .slice r.wa x.ws.length r.wc]] X fun e w' => e = .returned (.agg #[.string x.key, .string x.m, .string x.h, .string x.p, .slice r.ha x.hs.length r.hc, .int .i64 x.id, .bool x.bk, .bool x.ot, .int .i64 x.du, .bool x.dm, .slice r.wa x.ws.length r.wc]) ∧ Below X.heap.size X w') := fun X => trip_any X x r
  have CW : Hid (flC x = 0 → ∀ X a c, Below w.heap.size w X → WrIn X a (leftR now x.ws) → Calls Tryz.prog 48 #[.agg #[.string x.key, .string x.m, .string x.h, .string x.p, .slice r.ha x.hs.length r.hc, .int .i64 x.id, .bool x.bk, .bool x.ot, .int .i64 x.du, .bool x.dm, .slice r.wa x.ws.length r.wc], .slice a (leftR now x.ws).length c] X fun e w' => (∃ va vc xa xc, e = .returned (.agg #[.int .i64 x.id, .string x.key, .bool x.bk, .bool x.ot, .int .i64 x.du, .bool x.dm, .string x.m, .string x.h, .string x.p, .slice va x.hs.length vc, .slice xa (leftR now x.ws).length xc]) ∧ RowH w' X.heap.size (.slice va x.hs.length vc) x.hs ∧ OwnWr w' X.heap.size (.slice xa (leftR now x.ws).length xc) (leftR now x.ws) ∧ (∀ q, Value.ownBlock (.slice va x.hs.length vc) = some q → ∀ q', Value.ownBlock (.slice xa (leftR now x.ws).length xc) = some q' → q ≠ q')) ∧ Below X.heap.size X w') := fun h X a c hX hw => flightWith_any X x.id x.key x.bk x.ot x.du x.dm x.m x.h x.p r.ha r.hc x.hs r.wa x.ws.length r.wc a c (leftR now x.ws) hf.key hf.m hf.hh hf.p hf.h (SM.out h) (hi.keep hX).h (Nat.le_trans (leftR_len _ _) hf.w) hw
  have N10 : Hid (flC x = 0 → x.ws.length ≤ 10) := fun h => (flC_zero h).2.2.2.2.2.2.1
  obtain ⟨Q, hQ⟩ : ∃ Q : World → Ending → Prop, Q = fun w' e => ExRes x now w w' e := ⟨_, rfl⟩
  have QB : Hid (∀ w' d, exC (flC x) now = d → ¬ d = 0 → w.heap.size ≤ w'.heap.size → Q w' (.returned (.agg #[.int .i64 d, .int .i64 0, .string ⟨#[]⟩, .bool false, .bool false, .int .i64 0, .bool false, .string ⟨#[]⟩, .string ⟨#[]⟩, .string ⟨#[]⟩, .slice none 0 0, .slice none 0 0, .slice none 0 0]))) := fun w' d h1 h2 h3 => by rw [hQ]; exact ExRes.bad h1 h2 h3
  have QG : Hid (exC (flC x) now = 0 → ∀ w' ra rn rk wa wn wk ga gn gk, At w.heap.size w'.heap.size (RW x.hs (leftR now x.ws) (goneR now x.ws) ra rn rk wa wn wk ga gn gk) w' → Q w' (.returned (.agg #[.int .i64 0, .int .i64 x.id, .string x.key, .bool x.bk, .bool x.ot, .int .i64 x.du, .bool x.dm, .string x.m, .string x.h, .string x.p, .slice ra rn rk, .slice wa wn wk, .slice ga gn gk]))) := fun h w' ra rn rk wa wn wk ga gn gk k => by rw [hQ]; exact ExRes.good h k
  refine Calls.mono (R := fun e w' => Q w' e ∧ Below w.heap.size w w') ?_ (fun e w' h => by rw [hQ] at h; exact h)
  clear hQ hW hi hset hE SM
  have E1 : Hid (¬ flC x = 0 → exC (flC x) now = flC x) := exC_fl
  have E2 : Hid (flC x = 0 → timeB now = false → exC (flC x) now = 3) := exC_time
  have E3 : Hid (flC x = 0 → timeB now = true → exC (flC x) now = 0) := exC_ok
  have hwl := hf.w
  have LN := hidL (leftR_len now x.ws)
  clear hf
  obtain ⟨k, hk⟩ : ∃ k, x.ws.length = k := ⟨_, rfl⟩
  have HK : Hid (x.ws.length = k) := hk
  obtain ⟨n, hn⟩ : ∃ n, x.hs.length = n := ⟨_, rfl⟩
  have HN : Hid (x.hs.length = n) := hn
  rw [hk] at hwl LN N10
  rw [hk, hn] at HW FB CF CR CW ⊢
  rw [hk] at CA
  clear hk hn
  generalize exC (flC x) now = ec at *
  generalize flC x = fc at *
  go_enter Tryz.func18, Tryz.ntmps18
  go_upto_region 1 with fail
  rw [← HW.out]
  clear HW
  have LB := hidL FB.out.val.1
  go_wp2_with (first | ((with_reducible refine flI_load (b := w.heap.size) (vs := [.int .i64 x.id, .string x.key, .bool x.bk, .bool x.ot, .int .i64 x.du, .bool x.dm, .string x.m, .string x.h, .string x.p, .slice r.ha n r.hc, .slice r.wa k r.wc]) ?_ ?_ LB.out ?_); exact rfl; exact rfl))
  refine (CF.out W KW.out).mono ?_
  rintro e w1 ⟨rfl, hb⟩
  have s0 := Nat.le_trans SW.out hb.size
  have K1 := hidL (KW.out.trans (hb.mono KW.out.size))
  replace FB := hidL (FB.out.keep hb)
  replace FZ := hidL (FZ.out.keep hb)
  clear hb LB KW CF SW
  have LZ := hidL FZ.out.val.1
  have LZf := hidL FZ.out.val.2
  by_cases c0 : fc = 0
  · subst c0
    go_wp2_with fail
    refine (CT.out now _).mono ?_
    rintro r0 v0 ⟨rfl, rfl⟩
    cases ht : timeB now
    · go_wp2_with (first | ((with_reducible refine wrR_put (b := w.heap.size + 1) (zs := [.int .i64 0, .int .i64 0, .string ⟨#[]⟩, .bool false, .bool false, .int .i64 0, .bool false, .string ⟨#[]⟩, .string ⟨#[]⟩, .string ⟨#[]⟩, .slice none 0 0, .slice none 0 0, .slice none 0 0]) (vs := [.int .i64 3, .int .i64 0, .string ⟨#[]⟩, .bool false, .bool false, .int .i64 0, .bool false, .string ⟨#[]⟩, .string ⟨#[]⟩, .string ⟨#[]⟩, .slice none 0 0, .slice none 0 0, .slice none 0 0]) ?_ ?_ ?_ ?_ ?_ LZ.out LZf.out ?_); exact rfl; exact rfl; exact rfl; exact rfl; exact rfl))
      obtain ⟨VF, hVF⟩ : ∃ V, V = putAll v0 (w.heap.size + 1) 0 [.int .i64 3, .int .i64 0, .string ⟨#[]⟩, .bool false, .bool false, .int .i64 0, .bool false, .string ⟨#[]⟩, .string ⟨#[]⟩, .string ⟨#[]⟩, .slice none 0 0, .slice none 0 0, .slice none 0 0] := ⟨_, rfl⟩
      rw [← hVF]
      have R : At (w.heap.size + 1) (w.heap.size + 1 + 1) (Bx (w.heap.size + 1) [.int .i64 3, .int .i64 0, .string ⟨#[]⟩, .bool false, .bool false, .int .i64 0, .bool false, .string ⟨#[]⟩, .string ⟨#[]⟩, .string ⟨#[]⟩, .slice none 0 0, .slice none 0 0, .slice none 0 0]) VF := by rw [hVF]; exact Bx.putAll FZ.out [.int .i64 3, .int .i64 0, .string ⟨#[]⟩, .bool false, .bool false, .int .i64 0, .bool false, .string ⟨#[]⟩, .string ⟨#[]⟩, .string ⟨#[]⟩, .slice none 0 0, .slice none 0 0, .slice none 0 0] rfl
      have KF : Below w.heap.size w VF := by rw [hVF]; exact below_putAll (by omega) [.int .i64 3, .int .i64 0, .string ⟨#[]⟩, .bool false, .bool false, .int .i64 0, .bool false, .string ⟨#[]⟩, .string ⟨#[]⟩, .string ⟨#[]⟩, .slice none 0 0, .slice none 0 0, .slice none 0 0] 0 K1.out
      clear hVF
      have rz0 := R.val.1 0 _ rfl
      have rz1 := R.val.1 1 _ rfl
      have rz2 := R.val.1 2 _ rfl
      have rz3 := R.val.1 3 _ rfl
      have rz4 := R.val.1 4 _ rfl
      have rz5 := R.val.1 5 _ rfl
      have rz6 := R.val.1 6 _ rfl
      have rz7 := R.val.1 7 _ rfl
      have rz8 := R.val.1 8 _ rfl
      have rz9 := R.val.1 9 _ rfl
      have rz10 := R.val.1 10 _ rfl
      have rz11 := R.val.1 11 _ rfl
      have rz12 := R.val.1 12 _ rfl
      refine bodyPost_ret (v := .agg #[.int .i64 3, .int .i64 0, .string ⟨#[]⟩, .bool false, .bool false, .int .i64 0, .bool false, .string ⟨#[]⟩, .string ⟨#[]⟩, .string ⟨#[]⟩, .slice none 0 0, .slice none 0 0, .slice none 0 0]) ?_ rfl ⟨QB.out VF 3 (E2.out (by simp) ht) (by decide) KF.size, KF⟩
      simp [results, Tryz.results18, go_sem, rz0, rz1, rz2, rz3, rz4, rz5, rz6, rz7, rz8, rz9, rz10, rz11, rz12]
    have h10 := N10.out (by simp)
    have EC := hidL (E3.out (by simp) ht)
    replace QG := hidL (QG.out EC.out)
    clear ht E1 E2 E3 QB N10
    replace CA := hidL (CA.out (by simp))
    replace CW := hidL (CW.out (by simp))
    have p10 := FB.out.val.1 10 _ rfl
    go_wp2_with fail
    refine (CA.out _ K1.out).mono ?_
    rintro e w2 ⟨vl, vg, rfl, hx⟩
    obtain ⟨la, lc, rfl, _, wi⟩ := OwnWr.in hx.ol
    obtain ⟨ga, gc, rfl, _, _⟩ := OwnWr.in hx.oi
    have HX := hidL hx
    have HWI := hidL wi
    have s1 := hx.lo.size
    have K2 := hidL (K1.out.trans (hx.lo.mono K1.out.size))
    replace FB := hidL (FB.out.keep hx.lo)
    replace FZ := hidL (FZ.out.keep hx.lo)
    clear hx wi p10 CA K1 LZ LZf
    have LB := hidL FB.out.val.1
    go_wp2_with (first | ((with_reducible refine flI_load (b := w.heap.size) (vs := [.int .i64 x.id, .string x.key, .bool x.bk, .bool x.ot, .int .i64 x.du, .bool x.dm, .string x.m, .string x.h, .string x.p, .slice r.ha n r.hc, .slice r.wa k r.wc]) ?_ ?_ LB.out ?_); exact rfl; exact rfl))
    refine (CR.out w2).mono ?_
    rintro e w3 ⟨rfl, hb⟩
    have K3 := hidL (K2.out.trans (hb.mono K2.out.size))
    have s2 := hb.size
    replace FZ := hidL (FZ.out.keep hb)
    have OG := hidL (HX.out.oi.below hb)
    have OGL := hidL (show ∀ q, (Value.slice ga (goneR now x.ws).length gc).ownBlock = some q → q < w2.heap.size from fun q hq => (World.ownsRow.lt HX.out.oi q hq).2)
    replace HWI := hidL (HWI.out.keep hb)
    have s9 := HX.out.lo.size
    clear hb LB FB K2 CR HX
    go_wp2_with fail
    refine (CW.out w3 la lc K3.out HWI.out).mono ?_
    rintro e w4 ⟨⟨va, vc, xa, xc, rfl, hh, hw2, hap⟩, hb⟩
    have K4 := hidL (K3.out.trans (hb.mono K3.out.size))
    have sz3 := hb.size
    have FZ3 := hidL (FZ.out.keep hb)
    have og := OG.out.below hb
    have a1 := RowH.hl hh (b := w.heap.size) (by omega) (by omega)
    have a2 := OwnWr.wl hw2 (b := w.heap.size) (by omega) (by omega)
    have a3 := OwnWr.wl og (b := w.heap.size) (by omega) (by omega)
    have AA := hidL (show _ ∧ _ ∧ _ from ⟨a1, a2, a3⟩)
    have B1 := hidL (show _ ∧ _ ∧ _ from ⟨row_stretch hh (b := w.heap.size) (by omega) (by omega), row_stretch hw2 (b := w.heap.size) (by omega) (by omega), row_stretch og (b := w.heap.size) (by omega) (by omega)⟩)
    have B2 := hidL (show _ ∧ _ ∧ _ from ⟨s_off (b := w.heap.size) (c := w.heap.size + 2) (fun q hq => by have := row_ge hh q hq; omega), s_off (b := w.heap.size) (c := w.heap.size + 2) (fun q hq => by have := row_ge hw2 q hq; omega), s_off (b := w.heap.size) (c := w.heap.size + 2) (fun q hq => by have := row_ge og q hq; omega)⟩)
    have B3 := hidL (show _ ∧ _ ∧ _ from ⟨s_apart (b := w.heap.size) (v := .slice va n vc) (u := .slice xa (leftR now x.ws).length xc) (fun q hq e => hap q hq q e rfl) (fun q hq => by have := row_ge hh q hq; omega) (fun q hq => by have := row_ge hw2 q hq; omega), s_apart (b := w.heap.size) (v := .slice va n vc) (u := .slice ga (goneR now x.ws).length gc) (fun q hq e => by have := row_ge hh q hq; have := OGL.out q e; omega) (fun q hq => by have := row_ge hh q hq; omega) (fun q hq => by have := row_ge og q hq; omega), s_apart (b := w.heap.size) (v := .slice xa (leftR now x.ws).length xc) (u := .slice ga (goneR now x.ws).length gc) (fun q hq e => by have := row_ge hw2 q hq; have := OGL.out q e; omega) (fun q hq => by have := row_ge hw2 q hq; omega) (fun q hq => by have := row_ge og q hq; omega)⟩)
    have LZ := hidL FZ3.out.val.1
    have LZf := hidL FZ3.out.val.2
    clear hb hh hw2 hap og a1 a2 a3 OG OGL FZ HWI CW K3
    go_wp2_with (first | ((with_reducible refine wrR_put (b := w.heap.size + 1) (zs := [.int .i64 0, .int .i64 0, .string ⟨#[]⟩, .bool false, .bool false, .int .i64 0, .bool false, .string ⟨#[]⟩, .string ⟨#[]⟩, .string ⟨#[]⟩, .slice none 0 0, .slice none 0 0, .slice none 0 0]) (vs := [.int .i64 0, .int .i64 x.id, .string x.key, .bool x.bk, .bool x.ot, .int .i64 x.du, .bool x.dm, .string x.m, .string x.h, .string x.p, .slice va n vc, .slice xa (leftR now x.ws).length xc, .slice ga (goneR now x.ws).length gc]) ?_ ?_ ?_ ?_ ?_ LZ.out LZf.out ?_); exact rfl; exact rfl; exact rfl; exact rfl; exact rfl))
    obtain ⟨VF, hVF⟩ : ∃ V, V = putAll w4 (w.heap.size + 1) 0 [.int .i64 0, .int .i64 x.id, .string x.key, .bool x.bk, .bool x.ot, .int .i64 x.du, .bool x.dm, .string x.m, .string x.h, .string x.p, .slice va n vc, .slice xa (leftR now x.ws).length xc, .slice ga (goneR now x.ws).length gc] := ⟨_, rfl⟩
    rw [← hVF]
    have R : At (w.heap.size + 1) (w.heap.size + 1 + 1) (Bx (w.heap.size + 1) [.int .i64 0, .int .i64 x.id, .string x.key, .bool x.bk, .bool x.ot, .int .i64 x.du, .bool x.dm, .string x.m, .string x.h, .string x.p, .slice va n vc, .slice xa (leftR now x.ws).length xc, .slice ga (goneR now x.ws).length gc]) VF := by rw [hVF]; exact Bx.putAll FZ3.out [.int .i64 0, .int .i64 x.id, .string x.key, .bool x.bk, .bool x.ot, .int .i64 x.du, .bool x.dm, .string x.m, .string x.h, .string x.p, .slice va n vc, .slice xa (leftR now x.ws).length xc, .slice ga (goneR now x.ws).length gc] rfl
    have KF : Below w.heap.size w VF := by rw [hVF]; exact below_putAll (by omega) [.int .i64 0, .int .i64 x.id, .string x.key, .bool x.bk, .bool x.ot, .int .i64 x.du, .bool x.dm, .string x.m, .string x.h, .string x.p, .slice va n vc, .slice xa (leftR now x.ws).length xc, .slice ga (goneR now x.ws).length gc] 0 K4.out
    have eA : _ ∧ _ ∧ _ := ⟨At.putAll (X := w4) (b := w.heap.size + 1) (by have := B2.out.1; omega) [.int .i64 0, .int .i64 x.id, .string x.key, .bool x.bk, .bool x.ot, .int .i64 x.du, .bool x.dm, .string x.m, .string x.h, .string x.p, .slice va n vc, .slice xa (leftR now x.ws).length xc, .slice ga (goneR now x.ws).length gc] 0 AA.out.1, At.putAll (X := w4) (b := w.heap.size + 1) (by have := B2.out.2.1; omega) [.int .i64 0, .int .i64 x.id, .string x.key, .bool x.bk, .bool x.ot, .int .i64 x.du, .bool x.dm, .string x.m, .string x.h, .string x.p, .slice va n vc, .slice xa (leftR now x.ws).length xc, .slice ga (goneR now x.ws).length gc] 0 AA.out.2.1, At.putAll (X := w4) (b := w.heap.size + 1) (by have := B2.out.2.2; omega) [.int .i64 0, .int .i64 x.id, .string x.key, .bool x.bk, .bool x.ot, .int .i64 x.du, .bool x.dm, .string x.m, .string x.h, .string x.p, .slice va n vc, .slice xa (leftR now x.ws).length xc, .slice ga (goneR now x.ws).length gc] 0 AA.out.2.2⟩
    rw [← hVF] at eA
    obtain ⟨d1, d2, d3⟩ := eA
    have g1 := B1.out
    have g3 := B3.out
    have i1 := (d1.val.in rfl).1
    have i2 := d2.val.in.1
    have i3 := d3.val.in.1
    clear hVF
    have rz0 := R.val.1 0 _ rfl
    have rz1 := R.val.1 1 _ rfl
    have rz2 := R.val.1 2 _ rfl
    have rz3 := R.val.1 3 _ rfl
    have rz4 := R.val.1 4 _ rfl
    have rz5 := R.val.1 5 _ rfl
    have rz6 := R.val.1 6 _ rfl
    have rz7 := R.val.1 7 _ rfl
    have rz8 := R.val.1 8 _ rfl
    have rz9 := R.val.1 9 _ rfl
    have rz10 := R.val.1 10 _ rfl
    have rz11 := R.val.1 11 _ rfl
    have rz12 := R.val.1 12 _ rfl
    refine bodyPost_ret (v := .agg #[.int .i64 0, .int .i64 x.id, .string x.key, .bool x.bk, .bool x.ot, .int .i64 x.du, .bool x.dm, .string x.m, .string x.h, .string x.p, .slice va n vc, .slice xa (leftR now x.ws).length xc, .slice ga (goneR now x.ws).length gc]) ?_ rfl ⟨QG.out VF _ _ _ _ _ _ _ _ _ ⟨Nat.le_refl _, RW.dep _ _ _ _ _ _ _ _ _ _ _ _ _ _, ⟨i1, i2, i3⟩, _, _, _, _, _, _, ⟨g1.1.1, s_le _ _, d1.le⟩, ⟨g1.2.1.1, s_le _ _, d2.le⟩, ⟨g1.2.2.1, s_le _ _, d3.le⟩, g3, d1, d2, d3⟩, KF⟩
    simp [results, Tryz.results18, go_sem, rz0, rz1, rz2, rz3, rz4, rz5, rz6, rz7, rz8, rz9, rz10, rz11, rz12]
  · go_wp2_with (first | ((with_reducible refine wrR_put (b := w.heap.size + 1) (zs := [.int .i64 0, .int .i64 0, .string ⟨#[]⟩, .bool false, .bool false, .int .i64 0, .bool false, .string ⟨#[]⟩, .string ⟨#[]⟩, .string ⟨#[]⟩, .slice none 0 0, .slice none 0 0, .slice none 0 0]) (vs := [.int .i64 fc, .int .i64 0, .string ⟨#[]⟩, .bool false, .bool false, .int .i64 0, .bool false, .string ⟨#[]⟩, .string ⟨#[]⟩, .string ⟨#[]⟩, .slice none 0 0, .slice none 0 0, .slice none 0 0]) ?_ ?_ ?_ ?_ ?_ LZ.out LZf.out ?_); exact rfl; exact rfl; exact rfl; exact rfl; exact rfl))
    obtain ⟨VF, hVF⟩ : ∃ V, V = putAll w1 (w.heap.size + 1) 0 [.int .i64 fc, .int .i64 0, .string ⟨#[]⟩, .bool false, .bool false, .int .i64 0, .bool false, .string ⟨#[]⟩, .string ⟨#[]⟩, .string ⟨#[]⟩, .slice none 0 0, .slice none 0 0, .slice none 0 0] := ⟨_, rfl⟩
    rw [← hVF]
    have R : At (w.heap.size + 1) (w.heap.size + 1 + 1) (Bx (w.heap.size + 1) [.int .i64 fc, .int .i64 0, .string ⟨#[]⟩, .bool false, .bool false, .int .i64 0, .bool false, .string ⟨#[]⟩, .string ⟨#[]⟩, .string ⟨#[]⟩, .slice none 0 0, .slice none 0 0, .slice none 0 0]) VF := by rw [hVF]; exact Bx.putAll FZ.out [.int .i64 fc, .int .i64 0, .string ⟨#[]⟩, .bool false, .bool false, .int .i64 0, .bool false, .string ⟨#[]⟩, .string ⟨#[]⟩, .string ⟨#[]⟩, .slice none 0 0, .slice none 0 0, .slice none 0 0] rfl
    have KF : Below w.heap.size w VF := by rw [hVF]; exact below_putAll (by omega) [.int .i64 fc, .int .i64 0, .string ⟨#[]⟩, .bool false, .bool false, .int .i64 0, .bool false, .string ⟨#[]⟩, .string ⟨#[]⟩, .string ⟨#[]⟩, .slice none 0 0, .slice none 0 0, .slice none 0 0] 0 K1.out
    clear hVF
    have rz0 := R.val.1 0 _ rfl
    have rz1 := R.val.1 1 _ rfl
    have rz2 := R.val.1 2 _ rfl
    have rz3 := R.val.1 3 _ rfl
    have rz4 := R.val.1 4 _ rfl
    have rz5 := R.val.1 5 _ rfl
    have rz6 := R.val.1 6 _ rfl
    have rz7 := R.val.1 7 _ rfl
    have rz8 := R.val.1 8 _ rfl
    have rz9 := R.val.1 9 _ rfl
    have rz10 := R.val.1 10 _ rfl
    have rz11 := R.val.1 11 _ rfl
    have rz12 := R.val.1 12 _ rfl
    refine bodyPost_ret (v := .agg #[.int .i64 fc, .int .i64 0, .string ⟨#[]⟩, .bool false, .bool false, .int .i64 0, .bool false, .string ⟨#[]⟩, .string ⟨#[]⟩, .string ⟨#[]⟩, .slice none 0 0, .slice none 0 0, .slice none 0 0]) ?_ rfl ⟨QB.out VF fc (E1.out c0) c0 KF.size, KF⟩
    simp [results, Tryz.results18, go_sem, rz0, rz1, rz2, rz3, rz4, rz5, rz6, rz7, rz8, rz9, rz10, rz11, rz12]
end Go.Proofs.YtkchefbhpbpanaaGreatDoor
/-
  The law of ExpireWaiters.
-/
namespace Go.Proofs.YtkchefbhpbpanaaGreatDoor
open Go.ChangeShapes Go.WideShapes Go.ChangeAt Go.RowKit Go.Sort
theorem exLens (x : Fl) (now : Int) : (exL (exC (flC x) now) x.hs).length ≤ 20 ∧ (exL (exC (flC x) now) (leftR now x.ws)).length ≤ 10 ∧ (exL (exC (flC x) now) (goneR now x.ws)).length ≤ 10 := by
  by_cases h : (exC (flC x) now) = 0
  · have h2 : flC x = 0 := by
      by_cases c : flC x = 0
      · exact c
      · rw [exC_fl c] at h; exact absurd h c
    obtain ⟨_, _, _, _, h5, _, h7, _⟩ := flC_zero h2
    have h6 := (headsC_zero (reqC_zero h5).2.1).1
    unfold exL
    rw [if_pos h, if_pos h, if_pos h]
    have := leftR_len now x.ws
    have := goneR_len now x.ws
    omega
  · unfold exL
    rw [if_neg h, if_neg h, if_neg h]
    simp
theorem flFit_of {x : Fl} (h : ¬ (szF 1048576 x.key x.m x.h x.p x.hs x.ws.length) < 0) : FlFit x := by
  obtain ⟨a, b, c, d, e, f, _⟩ := szF_room (by omega) h
  exact ⟨a, b, c, d, e, f⟩
set_option maxHeartbeats 4000000 in
theorem lawExpireWaiters (E : Errs) (w : World) (x : Fl) (r : FlR) (now : Int) (hset : SetIs w) (hE : ErrsIs w E) (hi : FlIn w x r) (hs : FlSm x) :
    Calls Tryz.prog 4 #[.agg #[.int .i64 x.id, .string x.key, .bool x.bk, .bool x.ot, .int .i64 x.du, .bool x.dm, .string x.m, .string x.h, .string x.p, .slice r.ha x.hs.length r.hc, .slice r.wa x.ws.length r.wc], .int .i64 now] w fun e w' => e = .returned (.bool true) ∧ Below w.heap.size w w' := by
  have ll := exLens x now
  refine walk_Exp w x.id x.key x.bk x.ot x.du x.dm x.m x.h x.p r.ha x.hs.length r.hc r.wa x.ws.length r.wc now (exC (flC x) now) (exI (exC (flC x) now) x.id) (exS (exC (flC x) now) x.key) (exB (exC (flC x) now) x.bk) (exB (exC (flC x) now) x.ot) (exI (exC (flC x) now) x.du) (exB (exC (flC x) now) x.dm) (exS (exC (flC x) now) x.m) (exS (exC (flC x) now) x.h) (exS (exC (flC x) now) x.p) (szF 1048576 x.key x.m x.h x.p x.hs x.ws.length) (CFl x) (RW (exL (exC (flC x) now) x.hs) (exL (exC (flC x) now) (leftR now x.ws)) (exL (exC (flC x) now) (goneR now x.ws))) (RWm (exL (exC (flC x) now) x.hs) (exL (exC (flC x) now) (leftR now x.ws)) (exL (exC (flC x) now) (goneR now x.ws))) ((1 + 2 * x.hs.length + x.ws.length * 4 : Nat) : Int) ((1 + 2 * (exL (exC (flC x) now) x.hs).length + (exL (exC (flC x) now) (leftR now x.ws)).length * 4 + (exL (exC (flC x) now) (goneR now x.ws)).length * 4 : Nat) : Int) ?_ ?_ ?_ ?_ ?_ ?_ ?_ ?_ ?_ ?_ ?_
  · exact fun X hX => szFlight_any X x.id x.key x.bk x.ot x.du x.dm x.m x.h x.p r.ha r.hc r.wa r.wc x.hs x.ws 1048576 (by omega) (by omega) hs.key hs.m hs.h hs.p hs.hl hs.hs hs.wl (hi.h.keep hX)
  · exact fun h X hX => flA_T w x r (flFit_of h) hi X hX
  · exact fun h X la ha lb hb Kx Dx Ky Dy c d => flA_Q x (flFit_of h) X la ha lb hb Kx Dx Ky Dy c d
  · exact fun h X l h2 K D c hb => flA_M x (flFit_of h) w.heap.size X l h2 K D c hb
  · exact fun h X l h2 K D _ c => specExpire_any X x ⟨some ⟨K, 0, none⟩, x.hs.length, some ⟨D, 0, none⟩, x.ws.length⟩ now (flFit_of h) c.val.in
  · exact fun h X l h2 K D hX c => implExpire_any E X x ⟨some ⟨K, 0, none⟩, x.hs.length, some ⟨D, 0, none⟩, x.ws.length⟩ now (flFit_of h) (hset.below hX) (hE.below hX) c.val.in
  · intro h X la ha lb hb xa xn xk ya yn yk za zn zk xa2 xn2 xk2 ya2 yn2 yk2 za2 zn2 zk2 c d
    obtain ⟨⟨rfl, rfl, rfl⟩, _, _, _, _, _, _, _, _, _, _, a1, a2, a3⟩ := c.val
    obtain ⟨⟨rfl, rfl, rfl⟩, _, _, _, _, _, _, _, _, _, _, b1, b2, b3⟩ := d.val
    exact exEqW X _ _ _ _ _ _ _ _ _ _ xa xk ya yk za zk xa2 xk2 ya2 yk2 za2 zk2 (exL (exC (flC x) now) x.hs) (exL (exC (flC x) now) (leftR now x.ws)) (exL (exC (flC x) now) (goneR now x.ws)) (by omega) (by omega) (by omega) (a1.val.in rfl).2 a2.val.in.2 a3.val.in.2 (b1.val.in rfl).2 b2.val.in.2 b3.val.in.2
  · intro h X l h2 xa xn xk ya yn yk za zn zk hX c hb
    obtain ⟨⟨rfl, rfl, rfl⟩, _⟩ := c.val
    exact exMarkWR X _ _ _ _ _ _ _ _ _ _ xa _ xk ya _ yk za _ zk (exL (exC (flC x) now) x.hs) (exL (exC (flC x) now) (leftR now x.ws)) (exL (exC (flC x) now) (goneR now x.ws)) l h2 w.heap.size c hb hX.size (by omega) (by omega) (by omega)
  · intro h X l h2 xa xn xk ya yn yk za zn zk c
    obtain ⟨⟨rfl, rfl, rfl⟩, _⟩ := c.val
    exact exHeldWR X _ _ _ _ _ _ _ _ _ _ xa _ xk ya _ yk za _ zk (exL (exC (flC x) now) x.hs) (exL (exC (flC x) now) (leftR now x.ws)) (exL (exC (flC x) now) (goneR now x.ws)) l h2 c (by omega) (by omega) (by omega)
  · omega
  · omega
end Go.Proofs.YtkchefbhpbpanaaGreatDoor
/-
  Head lines that came in, opened.
-/
namespace Go.Proofs.YtkchefbhpbpanaaGreatDoor
open Go.ChangeShapes Go.WideShapes Go.ChangeAt Go.RowKit Go.Deep
theorem headerCells : Tryz.prog.cellsOf 151 = 2 := by kernel_rfl
theorem hOneS : Tryz.prog.cellsOf 9 = 1 := by kernel_rfl
theorem hdr_of {H : Type} {enc : TypeId × Value → H} {w : World} {base : Nat} {spare : Nat → Bool} {held : Bool} {fuel : Nat} {cs : List Value} {x : DataW H × List MemPlace}
    (h : DataW.trod enc Tryz.prog w base spare held fuel 151 cs = some x) : ∃ r : Hdr, cs = [.string r.name, .string r.value] ∧ r.name.size ≤ maxLen ∧ r.value.size ≤ maxLen := by
  obtain ⟨y0, y1, n, _, hl, h0, h2⟩ := trod_struct2 Tryz.underlying151 h
  rw [headerCells] at hl
  simp only [hOneS] at h0 h2
  obtain ⟨s0, e0, _, z0⟩ := DataW.trod_string Tryz.underlying9 h0
  obtain ⟨s2, e2, _, z2⟩ := DataW.trod_string Tryz.underlying9 h2
  match cs, hl with
  | [c0, c2], _ =>
    simp only [List.drop_zero, List.take_succ_cons, List.take_zero, List.drop_succ_cons, List.cons.injEq, and_true] at e0 e2
    exact ⟨⟨s0, s2⟩, by rw [e0, e2], z0, z2⟩
theorem open_headers {H : Type} {enc : TypeId × Value → H} {w : World} {base : Nat} {spare : Nat → Bool} {held : Bool} {fuel : Nat} {a : Option Addr} {len cap : Nat} {x : DataW H × List MemPlace}
    (h : DataW.trod enc Tryz.prog w base spare held fuel 22 [.slice a len cap] = some x) :
    ∃ l : List Hdr, l.length = len ∧ len ≤ maxLen ∧ SmallHdrs l ∧ (l = [] ∨ ∃ b off, a = some ⟨b, off, none⟩ ∧ HeadsAt w b off l) := by
  rcases open_slice Tryz.underlying22 h with ⟨hcs, _⟩ | ⟨A, len', cap', m, n, D, Pl, hcs, _, hl, hm, hmm, _, hel⟩
  · simp only [List.cons.injEq, Value.slice.injEq, and_true] at hcs
    obtain ⟨_, rfl, _⟩ := hcs
    exact ⟨[], rfl, by unfold maxLen; omega, fun i r hr => by simp at hr, .inl rfl⟩
  · simp only [List.cons.injEq, Value.slice.injEq, and_true] at hcs
    obtain ⟨rfl, rfl, rfl⟩ := hcs
    have hlm : len ≤ m := by rw [hmm]; split <;> omega
    have hrec : ∀ i, i < len → ∃ r : Hdr, w.cells? base (A.add (i * 2)) 2 = some [.string r.name, .string r.value] ∧ r.name.size ≤ maxLen ∧ r.value.size ≤ maxLen := by
      intro i hi
      obtain ⟨cs', hc, ht⟩ := hel i (by omega)
      rw [headerCells] at hc
      obtain ⟨r, rfl, z⟩ := hdr_of ht
      exact ⟨r, hc, z⟩
    obtain ⟨f, hf⟩ : ∃ f : Nat → Hdr, ∀ i, i < len → w.cells? base (A.add (i * 2)) 2 = some [.string (f i).name, .string (f i).value] ∧ (f i).name.size ≤ maxLen ∧ (f i).value.size ≤ maxLen := by
      classical
      refine ⟨fun i => if hi : i < len then (hrec i hi).choose else ⟨.empty, .empty⟩, fun i hi => ?_⟩
      simp only [dif_pos hi]
      exact (hrec i hi).choose_spec
    refine ⟨(List.range len).map f, by simp, by omega, ?_, ?_⟩
    · intro i r hr
      rw [List.getElem?_map] at hr
      obtain ⟨j, hj, rfl⟩ := Option.map_eq_some_iff.1 hr
      obtain ⟨hlt, rfl⟩ := List.getElem?_eq_some_iff.1 hj
      simp at hlt
      simpa using (hf i hlt).2
    · by_cases h0 : len = 0
      · subst h0; exact .inl rfl
      · obtain ⟨b, off, spot⟩ := A
        have cells : ∀ i, i < len → ∀ j, j < 2 → w.cell? ((⟨b, off, spot⟩ : Addr).add (i * 2 + j)) = ([.string (f i).name, .string (f i).value] : List Value)[j]? := by
          intro i hi j hj
          have c := (World.cells?_some (hf i hi).1).2.2 j hj
          rw [add_add] at c
          exact c
        have hs : spot = none := by
          have c := cells 0 (by omega) 0 (by omega)
          simp only [Nat.zero_mul, Nat.add_zero, List.getElem?_cons_zero] at c
          simpa [Addr.add] using World.cell?_spot c
        subst hs
        have hadd : ∀ i, (⟨b, off, none⟩ : Addr).add i = ⟨b, off + i, none⟩ := fun i => by unfold Addr.add; split <;> simp_all
        refine .inr ⟨b, off, rfl, fun i r hr => ?_⟩
        rw [List.getElem?_map] at hr
        obtain ⟨j, hj, rfl⟩ := Option.map_eq_some_iff.1 hr
        obtain ⟨hlt, rfl⟩ := List.getElem?_eq_some_iff.1 hj
        simp only [List.length_range] at hlt
        simp only [List.getElem_range]
        have q0 := cells i hlt 0 (by omega)
        have q1 := cells i hlt 1 (by omega)
        rw [hadd] at q0 q1
        exact ⟨by simpa using q0, by simpa [Nat.add_assoc] using q1⟩
end Go.Proofs.YtkchefbhpbpanaaGreatDoor
/-
  A request and a response that came in by value, opened.
-/
namespace Go.Proofs.YtkchefbhpbpanaaGreatDoor
open Go.ChangeShapes Go.WideShapes Go.ChangeAt Go.RowKit Go.Deep
theorem requestCells : Tryz.prog.cellsOf 24 = 4 := by kernel_rfl
theorem headsOne : Tryz.prog.cellsOf 22 = 1 := by kernel_rfl
theorem slice_cs {H : Type} {enc : TypeId × Value → H} {w : World} {base : Nat} {spare : Nat → Bool} {held : Bool} {fuel : Nat} {cs : List Value} {t e : TypeId} {x : DataW H × List MemPlace}
    (hu : Tryz.prog.underlying t = some (.slice e)) (h : DataW.trod enc Tryz.prog w base spare held fuel t cs = some x) : ∃ a len cap, cs = [.slice a len cap] := by
  rcases open_slice hu h with ⟨hcs, _⟩ | ⟨A, len', cap', m, n, D, Pl, hcs, _⟩
  · exact ⟨_, _, _, hcs⟩
  · exact ⟨_, _, _, hcs⟩
set_option maxRecDepth 100000 in
theorem open_request {H : Type} {enc : TypeId × Value → H} {w : World} {r : Reach} {b0 base : Nat} {spare : Nat → Bool} {held : Bool} {v : Value} {d : DataW H} {p : List MemPlace}
    (hv : Value.okWide Tryz.prog w r b0 24 v) (h : DataW.Trod enc Tryz.prog w base spare held 24 v d p) :
    ∃ (m h p : ByteArray) (a : Option Addr) (cap : Nat) (l : List Hdr), v = .agg #[.string m, .string h, .string p, .slice a l.length cap] ∧ m.size ≤ maxLen ∧ h.size ≤ maxLen ∧ p.size ≤ maxLen ∧ l.length ≤ maxLen ∧ SmallHdrs l ∧ (l = [] ∨ ∃ b off, a = some ⟨b, off, none⟩ ∧ HeadsAt w b off l) := by
  obtain ⟨cs, rfl, hsz⟩ := okWide_struct Tryz.underlying24 hv
  obtain ⟨fuel, hf0⟩ := h
  obtain ⟨xs, n, _, _, hl, hlen, hf⟩ := DataW.trod_struct Tryz.underlying24 hf0
  match xs, hlen with
  | [y0, y1, y2, y3], _ =>
    have h0 : DataW.trod enc Tryz.prog w base spare held n 9 (((Value.agg cs).cells.toList.drop 0).take (Tryz.prog.cellsOf 9)) = some y0 := hf 0 _ rfl
    have h1 : DataW.trod enc Tryz.prog w base spare held n 9 (((Value.agg cs).cells.toList.drop 1).take (Tryz.prog.cellsOf 9)) = some y1 := hf 1 _ rfl
    have h2 : DataW.trod enc Tryz.prog w base spare held n 9 (((Value.agg cs).cells.toList.drop 2).take (Tryz.prog.cellsOf 9)) = some y2 := hf 2 _ rfl
    have h3 : DataW.trod enc Tryz.prog w base spare held n 22 (((Value.agg cs).cells.toList.drop 3).take (Tryz.prog.cellsOf 22)) = some y3 := hf 3 _ rfl
    rw [hOneS] at h0 h1 h2
    rw [headsOne] at h3
    obtain ⟨s0, e0, _, z0⟩ := DataW.trod_string Tryz.underlying9 h0
    obtain ⟨s1, e1, _, z1⟩ := DataW.trod_string Tryz.underlying9 h1
    obtain ⟨s2, e2, _, z2⟩ := DataW.trod_string Tryz.underlying9 h2
    obtain ⟨a, len, cap, e3⟩ := slice_cs Tryz.underlying22 h3
    rw [e3] at h3
    obtain ⟨l, rfl, m3, s3, o3⟩ := open_headers h3
    refine ⟨s0, s1, s2, a, cap, l, ?_, z0, z1, z2, m3, s3, o3⟩
    have e : cs.toList = [.string s0, .string s1, .string s2, .slice a l.length cap] := by
      simp only [Value.cells] at e0 e1 e2 e3 hl
      rw [requestCells] at hl
      match hc : cs.toList, hl with
      | [c0, c1, c2, c3], _ =>
        rw [hc] at e0 e1 e2 e3
        simp only [List.drop_zero, List.take_succ_cons, List.take_zero, List.drop_succ_cons, List.cons.injEq, and_true] at e0 e1 e2 e3
        rw [e0, e1, e2, e3]
    congr 1
    exact Array.toList_inj.1 e
end Go.Proofs.YtkchefbhpbpanaaGreatDoor
/-
  A list that came in, opened.
-/
namespace Go.Proofs.YtkchefbhpbpanaaGreatDoor
open Go.ChangeShapes Go.WideShapes Go.ChangeAt Go.RowKit Go.Deep
theorem cellsWr : Tryz.prog.cellsOf 29 = 4 := by kernel_rfl
theorem oneWrb : Tryz.prog.cellsOf 4 = 1 := by kernel_rfl
theorem oneWri : Tryz.prog.cellsOf 2 = 1 := by kernel_rfl
set_option maxRecDepth 100000 in
theorem ofWr {H : Type} {enc : TypeId × Value → H} {w : World} {base : Nat} {spare : Nat → Bool} {held : Bool} {fuel : Nat} {cs : List Value} {x : DataW H × List MemPlace}
    (h : DataW.trod enc Tryz.prog w base spare held fuel 29 cs = some x) : ∃ r : Wr, cs = [.int .i64 r.rq, .bool r.hd, .int .i64 r.du, .bool r.lt] := by
  obtain ⟨xs, n, _, _, hl, hlen, hf⟩ := DataW.trod_struct Tryz.underlying29 h
  rw [cellsWr] at hl
  match xs, hlen with
  | [y0, y1, y2, y3], _ =>
    have h0 : DataW.trod enc Tryz.prog w base spare held n 2 ((cs.drop 0).take (Tryz.prog.cellsOf 2)) = some y0 := hf 0 _ rfl
    have h1 : DataW.trod enc Tryz.prog w base spare held n 4 ((cs.drop 1).take (Tryz.prog.cellsOf 4)) = some y1 := hf 1 _ rfl
    have h2 : DataW.trod enc Tryz.prog w base spare held n 2 ((cs.drop 2).take (Tryz.prog.cellsOf 2)) = some y2 := hf 2 _ rfl
    have h3 : DataW.trod enc Tryz.prog w base spare held n 4 ((cs.drop 3).take (Tryz.prog.cellsOf 4)) = some y3 := hf 3 _ rfl
    rw [oneWri] at h0 h2
    rw [oneWrb] at h1 h3
    obtain ⟨s0, e0, _⟩ := DataW.trod_int Tryz.underlying2 h0
    obtain ⟨s1, e1, _⟩ := DataW.trod_bool Tryz.underlying4 h1
    obtain ⟨s2, e2, _⟩ := DataW.trod_int Tryz.underlying2 h2
    obtain ⟨s3, e3, _⟩ := DataW.trod_bool Tryz.underlying4 h3
    match cs, hl with
    | [c0, c1, c2, c3], _ =>
      simp only [List.drop_zero, List.take_succ_cons, List.take_zero, List.drop_succ_cons, List.cons.injEq, and_true] at e0 e1 e2 e3
      exact ⟨⟨s0, s1, s2, s3⟩, by rw [e0, e1, e2, e3]⟩
set_option maxRecDepth 100000 in
theorem openWr {H : Type} {enc : TypeId × Value → H} {w : World} {base : Nat} {spare : Nat → Bool} {held : Bool} {fuel : Nat} {a : Option Addr} {len cap : Nat} {x : DataW H × List MemPlace}
    (h : DataW.trod enc Tryz.prog w base spare held fuel 25 [.slice a len cap] = some x) :
    ∃ l : List Wr, l.length = len ∧ len ≤ maxLen ∧ WrIn w a l := by
  rcases open_slice Tryz.underlying25 h with ⟨hcs, _⟩ | ⟨A, len', cap', m, n, D, Pl, hcs, _, hl, hm, hmm, _, hel⟩
  · simp only [List.cons.injEq, Value.slice.injEq, and_true] at hcs
    obtain ⟨_, rfl, _⟩ := hcs
    exact ⟨[], rfl, by unfold maxLen; omega, .inl rfl⟩
  · simp only [List.cons.injEq, Value.slice.injEq, and_true] at hcs
    obtain ⟨rfl, rfl, rfl⟩ := hcs
    have hlm : len ≤ m := by rw [hmm]; split <;> omega
    have hrec : ∀ i, i < len → ∃ r : Wr, w.cells? base (A.add (i * 4)) 4 = some [.int .i64 r.rq, .bool r.hd, .int .i64 r.du, .bool r.lt] := by
      intro i hi
      obtain ⟨cs', hc, ht⟩ := hel i (by omega)
      rw [cellsWr] at hc
      obtain ⟨r, rfl⟩ := ofWr ht
      exact ⟨r, hc⟩
    obtain ⟨f, hf⟩ : ∃ f : Nat → Wr, ∀ i, i < len → w.cells? base (A.add (i * 4)) 4 = some [.int .i64 (f i).rq, .bool (f i).hd, .int .i64 (f i).du, .bool (f i).lt] := by
      classical
      refine ⟨fun i => if hi : i < len then (hrec i hi).choose else ⟨0, false, 0, false⟩, fun i hi => ?_⟩
      simp only [dif_pos hi]
      exact (hrec i hi).choose_spec
    refine ⟨(List.range len).map f, by simp, by omega, ?_⟩
    by_cases h0 : len = 0
    · subst h0; exact .inl rfl
    · obtain ⟨b, off, spot⟩ := A
      have cells : ∀ i, i < len → ∀ j, j < 4 → w.cell? ((⟨b, off, spot⟩ : Addr).add (i * 4 + j)) = ([.int .i64 (f i).rq, .bool (f i).hd, .int .i64 (f i).du, .bool (f i).lt] : List Value)[j]? := by
        intro i hi j hj
        have c := (World.cells?_some (hf i hi)).2.2 j hj
        rw [add_add] at c
        exact c
      have hs : spot = none := by
        have c := cells 0 (by omega) 0 (by omega)
        simp only [Nat.zero_mul, Nat.add_zero, List.getElem?_cons_zero] at c
        simpa [Addr.add] using World.cell?_spot c
      subst hs
      have hadd : ∀ i, (⟨b, off, none⟩ : Addr).add i = ⟨b, off + i, none⟩ := fun i => by unfold Addr.add; split <;> simp_all
      refine .inr ⟨b, off, rfl, fun i r hr => ?_⟩
      rw [List.getElem?_map] at hr
      obtain ⟨j, hj, rfl⟩ := Option.map_eq_some_iff.1 hr
      obtain ⟨hlt, rfl⟩ := List.getElem?_eq_some_iff.1 hj
      simp only [List.length_range] at hlt
      simp only [List.getElem_range]
      have q0 := cells i hlt 0 (by omega)
      have q1 := cells i hlt 1 (by omega)
      have q2 := cells i hlt 2 (by omega)
      have q3 := cells i hlt 3 (by omega)
      rw [hadd] at q0 q1 q2 q3
      exact ⟨by simpa using q0, by simpa [Nat.add_assoc] using q1, by simpa [Nat.add_assoc] using q2, by simpa [Nat.add_assoc] using q3⟩
end Go.Proofs.YtkchefbhpbpanaaGreatDoor
/-
  A flight that came in, and flights, opened.
-/
namespace Go.Proofs.YtkchefbhpbpanaaGreatDoor
open Go.ChangeShapes Go.WideShapes Go.ChangeAt Go.RowKit Go.Deep
theorem flCells : Tryz.prog.cellsOf 27 = 11 := by kernel_rfl
theorem fOneS : Tryz.prog.cellsOf 9 = 1 := by kernel_rfl
theorem fOneI : Tryz.prog.cellsOf 2 = 1 := by kernel_rfl
theorem fOneB : Tryz.prog.cellsOf 4 = 1 := by kernel_rfl
theorem fOneH : Tryz.prog.cellsOf 22 = 1 := by kernel_rfl
theorem fOneW : Tryz.prog.cellsOf 25 = 1 := by kernel_rfl
theorem fOneR : Tryz.prog.cellsOf 24 = 4 := by kernel_rfl
theorem slice_cap {H : Type} {enc : TypeId × Value → H} {P : Program} {w : World} {base : Nat} {spare : Nat → Bool} {held : Bool} {fuel : Nat} {t e : TypeId} {a : Option Addr} {n c : Nat} {x : DataW H × List MemPlace} (ht : P.underlying t = some (.slice e))
    (h : DataW.trod enc P w base spare held fuel t [.slice a n c] = some x) : n ≤ c := by
  rcases open_slice ht h with ⟨hcs, _⟩ | ⟨A, len', cap', m, n', D, Pl, hcs, _, hl, _⟩
  · simp only [List.cons.injEq, Value.slice.injEq, and_true] at hcs
    omega
  · simp only [List.cons.injEq, Value.slice.injEq, and_true] at hcs
    omega
set_option maxRecDepth 100000 in
theorem req_cs {H : Type} {enc : TypeId × Value → H} {w : World} {base : Nat} {spare : Nat → Bool} {held : Bool} {fuel : Nat} {cs : List Value} {x : DataW H × List MemPlace}
    (h : DataW.trod enc Tryz.prog w base spare held fuel 24 cs = some x) : ∃ (m h p : ByteArray) (ha : Option Addr) (hc : Nat) (hs : List Hdr), cs = [.string m, .string h, .string p, .slice ha hs.length hc] ∧ m.size ≤ maxLen ∧ h.size ≤ maxLen ∧ p.size ≤ maxLen ∧ hs.length ≤ maxLen ∧ SmallHdrs hs ∧ HdsIn w ha hs ∧ hs.length ≤ hc := by
  obtain ⟨xs, n, _, _, hl, hlen, hf⟩ := DataW.trod_struct Tryz.underlying24 h
  match xs, hlen with
  | [y0, y1, y2, y3], _ =>
    have h0 : DataW.trod enc Tryz.prog w base spare held n 9 ((cs.drop 0).take (Tryz.prog.cellsOf 9)) = some y0 := hf 0 _ rfl
    have h1 : DataW.trod enc Tryz.prog w base spare held n 9 ((cs.drop 1).take (Tryz.prog.cellsOf 9)) = some y1 := hf 1 _ rfl
    have h2 : DataW.trod enc Tryz.prog w base spare held n 9 ((cs.drop 2).take (Tryz.prog.cellsOf 9)) = some y2 := hf 2 _ rfl
    have h3 : DataW.trod enc Tryz.prog w base spare held n 22 ((cs.drop 3).take (Tryz.prog.cellsOf 22)) = some y3 := hf 3 _ rfl
    rw [fOneS] at h0 h1 h2
    rw [fOneH] at h3
    obtain ⟨s0, e0, _, z0⟩ := DataW.trod_string Tryz.underlying9 h0
    obtain ⟨s1, e1, _, z1⟩ := DataW.trod_string Tryz.underlying9 h1
    obtain ⟨s2, e2, _, z2⟩ := DataW.trod_string Tryz.underlying9 h2
    obtain ⟨ha, hn, hc, e3⟩ := slice_cs Tryz.underlying22 h3
    rw [e3] at h3
    obtain ⟨l, rfl, m3, sm3, o3⟩ := open_headers h3
    refine ⟨s0, s1, s2, ha, hc, l, ?_, z0, z1, z2, m3, sm3, o3, slice_cap Tryz.underlying22 h3⟩
    rw [fOneR] at hl
    match cs, hl with
    | [c0, c1, c2, c3], _ =>
      simp only [List.drop_zero, List.take_succ_cons, List.take_zero, List.drop_succ_cons, List.cons.injEq, and_true] at e0 e1 e2 e3
      rw [e0, e1, e2, e3]
set_option maxRecDepth 100000 in
theorem fl_of {H : Type} {enc : TypeId × Value → H} {w : World} {base : Nat} {spare : Nat → Bool} {held : Bool} {fuel : Nat} {cs : List Value} {x : DataW H × List MemPlace}
    (h : DataW.trod enc Tryz.prog w base spare held fuel 27 cs = some x) : ∃ (q : Fl) (r : FlR), cs = flW q r ∧ FlIn w q r ∧ FlSm q := by
  obtain ⟨xs, n, _, _, hl, hlen, hf⟩ := DataW.trod_struct Tryz.underlying27 h
  match xs, hlen with
  | [y0, y1, y2, y3, y4, y5, y6, y7], _ =>
    have h0 : DataW.trod enc Tryz.prog w base spare held n 2 ((cs.drop 0).take (Tryz.prog.cellsOf 2)) = some y0 := hf 0 _ rfl
    have h1 : DataW.trod enc Tryz.prog w base spare held n 9 ((cs.drop 1).take (Tryz.prog.cellsOf 9)) = some y1 := hf 1 _ rfl
    have h2 : DataW.trod enc Tryz.prog w base spare held n 4 ((cs.drop 2).take (Tryz.prog.cellsOf 4)) = some y2 := hf 2 _ rfl
    have h3 : DataW.trod enc Tryz.prog w base spare held n 4 ((cs.drop 3).take (Tryz.prog.cellsOf 4)) = some y3 := hf 3 _ rfl
    have h4 : DataW.trod enc Tryz.prog w base spare held n 2 ((cs.drop 4).take (Tryz.prog.cellsOf 2)) = some y4 := hf 4 _ rfl
    have h5 : DataW.trod enc Tryz.prog w base spare held n 4 ((cs.drop 5).take (Tryz.prog.cellsOf 4)) = some y5 := hf 5 _ rfl
    have h6 : DataW.trod enc Tryz.prog w base spare held n 24 ((cs.drop 6).take (Tryz.prog.cellsOf 24)) = some y6 := hf 6 _ rfl
    have h7 : DataW.trod enc Tryz.prog w base spare held n 25 ((cs.drop 10).take (Tryz.prog.cellsOf 25)) = some y7 := hf 7 _ rfl
    rw [fOneI] at h0 h4
    rw [fOneS] at h1
    rw [fOneB] at h2 h3 h5
    rw [fOneR] at h6
    rw [fOneW] at h7
    obtain ⟨s0, e0, _⟩ := DataW.trod_int Tryz.underlying2 h0
    obtain ⟨s1, e1, _, z1⟩ := DataW.trod_string Tryz.underlying9 h1
    obtain ⟨s2, e2, _⟩ := DataW.trod_bool Tryz.underlying4 h2
    obtain ⟨s3, e3, _⟩ := DataW.trod_bool Tryz.underlying4 h3
    obtain ⟨s4, e4, _⟩ := DataW.trod_int Tryz.underlying2 h4
    obtain ⟨s5, e5, _⟩ := DataW.trod_bool Tryz.underlying4 h5
    obtain ⟨m, ho, p, ha, hc, l, e6, q1, q2, q3, q4, q5, q6, q7⟩ := req_cs h6
    obtain ⟨wa, wn, wc, e7⟩ := slice_cs Tryz.underlying25 h7
    rw [e7] at h7
    obtain ⟨ws, rfl, m7, o7⟩ := openWr h7
    refine ⟨⟨s0, s1, s2, s3, s4, s5, m, ho, p, l, ws⟩, ⟨ha, hc, wa, wc⟩, ?_, ⟨q6, o7, q7, slice_cap Tryz.underlying25 h7⟩, ⟨z1, q1, q2, q3, q4, q5, m7⟩⟩
    rw [flCells] at hl
    match cs, hl with
    | [c0, c1, c2, c3, c4, c5, c6, c7, c8, c9, c10], _ =>
      simp only [List.drop_zero, List.take_succ_cons, List.take_zero, List.drop_succ_cons, List.cons.injEq, and_true] at e0 e1 e2 e3 e4 e5 e6 e7
      obtain ⟨f6, f7, f8, f9⟩ := e6
      rw [e0, e1, e2, e3, e4, e5, f6, f7, f8, f9, e7]
      rfl
set_option maxRecDepth 100000 in
theorem open_flight {H : Type} {enc : TypeId × Value → H} {w : World} {r : Reach} {b0 base : Nat} {spare : Nat → Bool} {held : Bool} {v : Value} {d : DataW H} {p : List MemPlace}
    (hv : Value.okWide Tryz.prog w r b0 27 v) (h : DataW.Trod enc Tryz.prog w base spare held 27 v d p) : ∃ (q : Fl) (r : FlR), v = flV q r ∧ FlIn w q r ∧ FlSm q := by
  obtain ⟨cs, rfl, hsz⟩ := okWide_struct Tryz.underlying27 hv
  obtain ⟨fuel, hf0⟩ := h
  obtain ⟨q, r, e, h1, h2⟩ := fl_of hf0
  refine ⟨q, r, ?_, h1, h2⟩
  simp only [Value.cells] at e
  show Value.agg cs = .agg _
  congr 1
  exact Array.toList_inj.1 e
end Go.Proofs.YtkchefbhpbpanaaGreatDoor
/-
  Facts of the program as a whole that every card of this seat leans on: each reckoned by the kernel, each by itself.
-/
namespace Go.Proofs.YtkchefbhpbpanaaGreatDoor
theorem pf_laid : laidOutB Tryz.prog = true := by kernel_rfl
theorem pf_maps : mapsRowed Tryz.prog = true := by kernel_rfl
theorem pf_stops : (Tryz.prog.stops == []) = true := by kernel_rfl
theorem pf_knobs : (Tryz.prog.stopKnobs == []) = true := by kernel_rfl
theorem pf_heard : Tryz.prog.stopsHeard = true := by kernel_rfl
theorem pf_enter : Tryz.prog.mayEnter = true := by kernel_rfl
theorem pf_prog : Tryz.pinned.checked.prog = Tryz.prog := by kernel_rfl
end Go.Proofs.YtkchefbhpbpanaaGreatDoor
/-
  As many variables are read as are named.
-/
namespace Go.Proofs.YtkchefbhpbpanaaGreatDoor
theorem trodVars_len {H : Type} {enc : TypeId × Value → H} {P : Program} {W : World} {sp : Nat → Bool} : ∀ {ns : List String} {gs : List (DataW H)} {ps : List MemPlace}, DataW.TrodVars enc P W sp ns gs ps → gs.length = ns.length
  | [], [], _, _ => rfl
  | [], _ :: _, _, h => h.elim
  | _ :: _, [], _, h => h.elim
  | n :: ns, d :: ds, ps, h => by
    obtain ⟨g, t, cs, fuel, p, q, h1, h2, h3, h4, hs, e⟩ := h
    simp [trodVars_len hs]
end Go.Proofs.YtkchefbhpbpanaaGreatDoor
