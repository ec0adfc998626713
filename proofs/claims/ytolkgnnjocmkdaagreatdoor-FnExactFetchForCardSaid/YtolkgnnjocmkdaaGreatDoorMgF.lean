/-
  Texts of one claim, one behind the other.
-/
import Derived.ChangeArms
import Derived.Deep.RegionHeld3
import Derived.JoinedCond
import Derived.Lib.SliceRun
import Derived.MakeChecks
import Derived.ProofKit
import Derived.Test.YtolkgnnjocmkdaaGreatDoorRows
import Derived.Test.YtolkgnnjocmkdaaGreatDoorMgE
/-
  FetchFor: what it answers, by the model.
-/
namespace Go.Proofs.YtolkgnnjocmkdaaGreatDoor
open Go.ChangeShapes Go.WideShapes Go.ChangeAt Go.RowKit Go.Sort
theorem fet_put {w X : World} {b lo : Nat} {v : Value} {M : List Hdr} {vs : List Value} (hb : Below w.heap.size w X) (ho : OwnH X lo v M) (h1 : w.heap.size ≤ b) (h2 : b < lo) : OwnH (putAll X b 0 vs) w.heap.size v M ∧ Below w.heap.size w (putAll X b 0 vs) :=
  ⟨row_lower (OwnH.putAll h2 vs 0 ho) (Nat.le_trans h1 (Nat.le_of_lt h2)), below_putAll h1 vs 0 hb⟩
set_option linter.unusedSimpArgs false in
set_option maxRecDepth 100000 in
set_option maxHeartbeats 32000000 in
theorem specFetch_any (w : World) (m h p : ByteArray) (a : Option Addr) (cap : Nat) (l : List Hdr) (key : ByteArray) (st : Int) (ha : Option Addr) (hc : Nat) (ba : Option Addr) (bn bc : Nat) (t g lf s e : Int) (b1 b2 : Bool) (ta : Option Addr) (tn tc : Nat) (pins : Int) (hs : List Hdr) (has : Bool) (hl : l.length ≤ 1048576) (hk : key.size ≤ maxLen) (hhl : hs.length ≤ 1048576) (hbn : bn ≤ maxLen) (htn : tn ≤ maxLen) (hi : HdsIn w a l) (hh : HdsIn w ha hs) :
    Calls Tryz.prog 10 #[.agg #[.string m, .string h, .string p, .slice a l.length cap], .agg #[.string key, .int .i64 st, .slice ha hs.length hc, .slice ba bn bc, .int .i64 t, .int .i64 g, .int .i64 lf, .int .i64 s, .int .i64 e, .bool b1, .bool b2, .slice ta tn tc, .int .i64 pins], .bool has] w fun r w' => FetRes (fetC (reqC m h p l) (entryC key st pins hs bn tn t g lf s e) has) h p (fetLs (fetC (reqC m h p l) (entryC key st pins hs bn tn t g lf s e) has) l hs has) w w' r ∧ Below w.heap.size w w' := by
  obtain ⟨W, hW⟩ : ∃ W, W = (((w.alloc (.cells #[.string m, .string h, .string p, .slice a l.length cap] 35)).alloc (.cells #[.string key, .int .i64 st, .slice ha hs.length hc, .slice ba bn bc, .int .i64 t, .int .i64 g, .int .i64 lf, .int .i64 s, .int .i64 e, .bool b1, .bool b2, .slice ta tn tc, .int .i64 pins] 42)).alloc (.cells #[.int .i64 0, .string ⟨#[]⟩, .string ⟨#[]⟩, .string ⟨#[]⟩, .slice none 0 0] 37)) := ⟨_, rfl⟩
  have HW : Hid (W = (((w.alloc (.cells #[.string m, .string h, .string p, .slice a l.length cap] 35)).alloc (.cells #[.string key, .int .i64 st, .slice ha hs.length hc, .slice ba bn bc, .int .i64 t, .int .i64 g, .int .i64 lf, .int .i64 s, .int .i64 e, .bool b1, .bool b2, .slice ta tn tc, .int .i64 pins] 42)).alloc (.cells #[.int .i64 0, .string ⟨#[]⟩, .string ⟨#[]⟩, .string ⟨#[]⟩, .slice none 0 0] 37))) := hW
  have KW : Hid (Below w.heap.size w W ∧ At w.heap.size (w.heap.size + 1) (Bx w.heap.size [.string m, .string h, .string p, .slice a l.length cap]) W ∧ At (w.heap.size + 1) (w.heap.size + 1 + 1) (Bx (w.heap.size + 1) [.string key, .int .i64 st, .slice ha hs.length hc, .slice ba bn bc, .int .i64 t, .int .i64 g, .int .i64 lf, .int .i64 s, .int .i64 e, .bool b1, .bool b2, .slice ta tn tc, .int .i64 pins]) W ∧ At (w.heap.size + 1 + 1) (w.heap.size + 1 + 1 + 1) (Bx (w.heap.size + 1 + 1) [.int .i64 0, .string ⟨#[]⟩, .string ⟨#[]⟩, .string ⟨#[]⟩, .slice none 0 0]) W) := by
    rw [hW]
    exact ⟨(((Below.refl _ _).alloc (Nat.le_refl _) _).alloc (by simp) _).alloc (by simp; omega) _, ((Bx.new _ [.string m, .string h, .string p, .slice a l.length cap] _).al _).al _, (Bx.newAt (by simp) [.string key, .int .i64 st, .slice ha hs.length hc, .slice ba bn bc, .int .i64 t, .int .i64 g, .int .i64 lf, .int .i64 s, .int .i64 e, .bool b1, .bool b2, .slice ta tn tc, .int .i64 pins] _).al _, Bx.newAt (by simp) [.int .i64 0, .string ⟨#[]⟩, .string ⟨#[]⟩, .string ⟨#[]⟩, .slice none 0 0] _⟩
  have CF : Hid (∀ X, Below w.heap.size w X → Calls Tryz.prog 56 #[.agg #[.string m, .string h, .string p, .slice a l.length cap]] X fun r w' => r = .returned (.int .i64 (reqC m h p l)) ∧ Below X.heap.size X w') := fun X hX => specReq_any X m h p a cap l hl (hi.keep hX)
  have CE : Hid (∀ X, Below w.heap.size w X → Calls Tryz.prog 57 #[.agg #[.string key, .int .i64 st, .slice ha hs.length hc, .slice ba bn bc, .int .i64 t, .int .i64 g, .int .i64 lf, .int .i64 s, .int .i64 e, .bool b1, .bool b2, .slice ta tn tc, .int .i64 pins]] X fun r w' => r = .returned (.int .i64 (entryC key st pins hs bn tn t g lf s e)) ∧ Below X.heap.size X w') := fun X hX => specEntry_any X key st ha hc ba bc t g lf s e b1 b2 ta tc pins hs bn tn hk hhl hbn htn (hh.keep hX)
  have CN : Hid (reqC m h p l = 0 → (has = true → entryC key st pins hs bn tn t g lf s e = 0) → ∀ X, Below w.heap.size w X ∧ At w.heap.size (w.heap.size + 1) (Bx w.heap.size [.string m, .string h, .string p, .slice a l.length cap]) X ∧ At (w.heap.size + 1) (w.heap.size + 1 + 1) (Bx (w.heap.size + 1) [.string key, .int .i64 st, .slice ha hs.length hc, .slice ba bn bc, .int .i64 t, .int .i64 g, .int .i64 lf, .int .i64 s, .int .i64 e, .bool b1, .bool b2, .slice ta tn tc, .int .i64 pins]) X ∧ At (w.heap.size + 1 + 1) (w.heap.size + 1 + 1 + 1) (Bx (w.heap.size + 1 + 1) [.int .i64 0, .string ⟨#[]⟩, .string ⟨#[]⟩, .string ⟨#[]⟩, .slice none 0 0]) X → Calls Tryz.prog 58 #[.pointer (some ⟨w.heap.size, 0, none⟩), .pointer (some ⟨w.heap.size + 1, 0, none⟩), .bool has] X fun r w' => (∃ va vn vc, r = .returned (.agg #[.string getN, .string h, .string p, .slice va vn vc]) ∧ OwnH w' X.heap.size (.slice va vn vc) (fetM l hs has)) ∧ Below X.heap.size X w') := fun h1 h2 X hX =>
    l13Fetch_any X w.heap.size (w.heap.size + 1) m h p a cap l key st ha hc (.slice ba bn bc) t g lf s e b1 b2 (.slice ta tn tc) pins hs has (req_heads h1) (fun k => (entryC_zero (h2 k)).2.2.2.1) (hi.keep hX.1) (hh.keep hX.1) hX.2.1 hX.2.2.1
  clear hW hi hh hl hk hhl hbn htn
  obtain ⟨Q, hQ⟩ : ∃ Q : World → Ending → Prop, Q = fun w' r => FetRes (fetC (reqC m h p l) (entryC key st pins hs bn tn t g lf s e) has) h p (fetLs (fetC (reqC m h p l) (entryC key st pins hs bn tn t g lf s e) has) l hs has) w w' r := ⟨_, rfl⟩
  have QB : Hid (∀ w' d, (fetC (reqC m h p l) (entryC key st pins hs bn tn t g lf s e) has) = d → d ≠ 0 → Q w' (.returned (.agg #[.int .i64 d, .string ⟨#[]⟩, .string ⟨#[]⟩, .string ⟨#[]⟩, .slice none 0 0]))) := fun w' d h1 h2 => by rw [hQ]; exact FetRes.bad h1 h2
  have QG : Hid ((fetC (reqC m h p l) (entryC key st pins hs bn tn t g lf s e) has) = 0 → ∀ w' ra rn rk, OwnH w' w.heap.size (.slice ra rn rk) (fetM l hs has) → Q w' (.returned (.agg #[.int .i64 0, .string getN, .string h, .string p, .slice ra rn rk]))) := fun h w' ra rn rk k => by rw [hQ]; exact FetRes.good h (OwnH.qr k k.n)
  show Calls _ _ _ _ fun r w' => FetRes (fetC (reqC m h p l) (entryC key st pins hs bn tn t g lf s e) has) h p (fetLs (fetC (reqC m h p l) (entryC key st pins hs bn tn t g lf s e) has) l hs has) w w' r ∧ Below w.heap.size w w'
  refine Calls.mono (R := fun r w' => Q w' r ∧ Below w.heap.size w w') ?_ (fun r w' h => by rw [hQ] at h; exact h)
  clear hQ
  have C1' : Hid (reqC m h p l ≠ 0 → (fetC (reqC m h p l) (entryC key st pins hs bn tn t g lf s e) has) = reqC m h p l) := fun h => by unfold fetC; rw [if_pos h]
  have C2' : Hid (reqC m h p l = 0 → has = true → (fetC (reqC m h p l) (entryC key st pins hs bn tn t g lf s e) has) = entryC key st pins hs bn tn t g lf s e) := fun h k => by unfold fetC; rw [if_neg (by simp [h]), if_pos k]
  have C4' : Hid (reqC m h p l = 0 → has = false → (fetC (reqC m h p l) (entryC key st pins hs bn tn t g lf s e) has) = 0) := fun h k => by unfold fetC; rw [if_neg (by simp [h]), if_neg (by simp [k])]
  generalize (fetC (reqC m h p l) (entryC key st pins hs bn tn t g lf s e) has) = cc at *
  generalize fetM l hs has = M at *
  generalize reqC m h p l = rc at *
  generalize entryC key st pins hs bn tn t g lf s e = ec at *
  generalize l.length = ln at *
  generalize hs.length = hn at *
  go_enter Tryz.func10, Tryz.ntmps10
  go_wp2_with fail
  rw [← HW.out]
  refine (CF.out W KW.out.1).mono ?_
  rintro r0 w1 ⟨rfl, hb⟩
  have K1 : Hid (Below w.heap.size w w1 ∧ At w.heap.size (w.heap.size + 1) (Bx w.heap.size [.string m, .string h, .string p, .slice a ln cap]) w1 ∧ At (w.heap.size + 1) (w.heap.size + 1 + 1) (Bx (w.heap.size + 1) [.string key, .int .i64 st, .slice ha hn hc, .slice ba bn bc, .int .i64 t, .int .i64 g, .int .i64 lf, .int .i64 s, .int .i64 e, .bool b1, .bool b2, .slice ta tn tc, .int .i64 pins]) w1 ∧ At (w.heap.size + 1 + 1) (w.heap.size + 1 + 1 + 1) (Bx (w.heap.size + 1 + 1) [.int .i64 0, .string ⟨#[]⟩, .string ⟨#[]⟩, .string ⟨#[]⟩, .slice none 0 0]) w1) := ⟨KW.out.1.trans (hb.mono KW.out.1.size), KW.out.2.1.keep hb, KW.out.2.2.1.keep hb, KW.out.2.2.2.keep hb⟩
  clear hb KW HW CF
  by_cases hc0 : rc = 0
  · have E0 : Hid (rc = 0) := hc0
    subst hc0
    cases has
    · have HC := hidL (C4'.out (by trivial) (by trivial))
      go_wp2_with fail
      refine (CN.out (by trivial) (fun k => by simp at k) w1 K1.out).mono ?_
      rintro r0 w2 ⟨⟨va, vn, vc, rfl, ho⟩, hb⟩
      have K2 : Hid (Below w.heap.size w w2 ∧ At w.heap.size (w.heap.size + 1) (Bx w.heap.size [.string m, .string h, .string p, .slice a ln cap]) w2 ∧ At (w.heap.size + 1) (w.heap.size + 1 + 1) (Bx (w.heap.size + 1) [.string key, .int .i64 st, .slice ha hn hc, .slice ba bn bc, .int .i64 t, .int .i64 g, .int .i64 lf, .int .i64 s, .int .i64 e, .bool b1, .bool b2, .slice ta tn tc, .int .i64 pins]) w2 ∧ At (w.heap.size + 1 + 1) (w.heap.size + 1 + 1 + 1) (Bx (w.heap.size + 1 + 1) [.int .i64 0, .string ⟨#[]⟩, .string ⟨#[]⟩, .string ⟨#[]⟩, .slice none 0 0]) w2) := ⟨K1.out.1.trans (hb.mono K1.out.1.size), K1.out.2.1.keep hb, K1.out.2.2.1.keep hb, K1.out.2.2.2.keep hb⟩
      have HF := hidL (fet_put (b := w.heap.size + 1 + 1) (vs := [.int .i64 0, .string getN, .string h, .string p, .slice va vn vc]) K2.out.1 ho (by omega) K1.out.2.2.2.le)
      have z0 := K2.out.2.2.2.val.1 0 _ rfl
      have z1 := K2.out.2.2.2.val.1 1 _ rfl
      have z2 := K2.out.2.2.2.val.1 2 _ rfl
      have z3 := K2.out.2.2.2.val.1 3 _ rfl
      have z4 := K2.out.2.2.2.val.1 4 _ rfl
      have zf0 := K2.out.2.2.2.val.2 0
      have zf1 := K2.out.2.2.2.val.2 1
      have zf2 := K2.out.2.2.2.val.2 2
      have zf3 := K2.out.2.2.2.val.2 3
      have zf4 := K2.out.2.2.2.val.2 4
      clear ho hb K1 K2 CN CE C1' C2' C4'
      go_wp2_with fail
      exact bodyPost_ret (v := .agg #[.int .i64 0, .string getN, .string h, .string p, .slice va vn vc]) (by simp [results, Tryz.results10, go_sem, z0, z1, z2, z3, z4]) rfl ⟨QG.out HC.out _ _ _ _ HF.out.1, HF.out.2⟩
    · have HC := hidL (C2'.out (by trivial) (by trivial))
      have q0 := K1.out.2.2.1.val.1 0 _ rfl
      have q1 := K1.out.2.2.1.val.1 1 _ rfl
      have q2 := K1.out.2.2.1.val.1 2 _ rfl
      have q3 := K1.out.2.2.1.val.1 3 _ rfl
      have q4 := K1.out.2.2.1.val.1 4 _ rfl
      have q5 := K1.out.2.2.1.val.1 5 _ rfl
      have q6 := K1.out.2.2.1.val.1 6 _ rfl
      have q7 := K1.out.2.2.1.val.1 7 _ rfl
      have q8 := K1.out.2.2.1.val.1 8 _ rfl
      have q9 := K1.out.2.2.1.val.1 9 _ rfl
      have q10 := K1.out.2.2.1.val.1 10 _ rfl
      have q11 := K1.out.2.2.1.val.1 11 _ rfl
      have q12 := K1.out.2.2.1.val.1 12 _ rfl
      go_wp2_with fail
      refine (CE.out w1 K1.out.1).mono ?_
      rintro r0 w2 ⟨rfl, hb⟩
      clear q0 q1 q2 q3 q4 q5 q6 q7 q8 q9 q10 q11 q12
      have K2 : Hid (Below w.heap.size w w2 ∧ At w.heap.size (w.heap.size + 1) (Bx w.heap.size [.string m, .string h, .string p, .slice a ln cap]) w2 ∧ At (w.heap.size + 1) (w.heap.size + 1 + 1) (Bx (w.heap.size + 1) [.string key, .int .i64 st, .slice ha hn hc, .slice ba bn bc, .int .i64 t, .int .i64 g, .int .i64 lf, .int .i64 s, .int .i64 e, .bool b1, .bool b2, .slice ta tn tc, .int .i64 pins]) w2 ∧ At (w.heap.size + 1 + 1) (w.heap.size + 1 + 1 + 1) (Bx (w.heap.size + 1 + 1) [.int .i64 0, .string ⟨#[]⟩, .string ⟨#[]⟩, .string ⟨#[]⟩, .slice none 0 0]) w2) := ⟨K1.out.1.trans (hb.mono K1.out.1.size), K1.out.2.1.keep hb, K1.out.2.2.1.keep hb, K1.out.2.2.2.keep hb⟩
      clear hb K1 CE
      by_cases he0 : ec = 0
      · subst he0
        go_wp2_with fail
        refine (CN.out (by trivial) (fun _ => by trivial) w2 K2.out).mono ?_
        rintro r0 w3 ⟨⟨va, vn, vc, rfl, ho⟩, hb⟩
        have K3 : Hid (Below w.heap.size w w3 ∧ At w.heap.size (w.heap.size + 1) (Bx w.heap.size [.string m, .string h, .string p, .slice a ln cap]) w3 ∧ At (w.heap.size + 1) (w.heap.size + 1 + 1) (Bx (w.heap.size + 1) [.string key, .int .i64 st, .slice ha hn hc, .slice ba bn bc, .int .i64 t, .int .i64 g, .int .i64 lf, .int .i64 s, .int .i64 e, .bool b1, .bool b2, .slice ta tn tc, .int .i64 pins]) w3 ∧ At (w.heap.size + 1 + 1) (w.heap.size + 1 + 1 + 1) (Bx (w.heap.size + 1 + 1) [.int .i64 0, .string ⟨#[]⟩, .string ⟨#[]⟩, .string ⟨#[]⟩, .slice none 0 0]) w3) := ⟨K2.out.1.trans (hb.mono K2.out.1.size), K2.out.2.1.keep hb, K2.out.2.2.1.keep hb, K2.out.2.2.2.keep hb⟩
        have HF := hidL (fet_put (b := w.heap.size + 1 + 1) (vs := [.int .i64 0, .string getN, .string h, .string p, .slice va vn vc]) K3.out.1 ho (by omega) K2.out.2.2.2.le)
        have z0 := K3.out.2.2.2.val.1 0 _ rfl
        have z1 := K3.out.2.2.2.val.1 1 _ rfl
        have z2 := K3.out.2.2.2.val.1 2 _ rfl
        have z3 := K3.out.2.2.2.val.1 3 _ rfl
        have z4 := K3.out.2.2.2.val.1 4 _ rfl
        have zf0 := K3.out.2.2.2.val.2 0
        have zf1 := K3.out.2.2.2.val.2 1
        have zf2 := K3.out.2.2.2.val.2 2
        have zf3 := K3.out.2.2.2.val.2 3
        have zf4 := K3.out.2.2.2.val.2 4
        clear ho hb K2 K3 CN C1' C2' C4'
        go_wp2_with fail
        exact bodyPost_ret (v := .agg #[.int .i64 0, .string getN, .string h, .string p, .slice va vn vc]) (by simp [results, Tryz.results10, go_sem, z0, z1, z2, z3, z4]) rfl ⟨QG.out HC.out _ _ _ _ HF.out.1, HF.out.2⟩
      · have HB := hidL K2.out.1
        have z0 := K2.out.2.2.2.val.1 0 _ rfl
        have z1 := K2.out.2.2.2.val.1 1 _ rfl
        have z2 := K2.out.2.2.2.val.1 2 _ rfl
        have z3 := K2.out.2.2.2.val.1 3 _ rfl
        have z4 := K2.out.2.2.2.val.1 4 _ rfl
        have zf0 := K2.out.2.2.2.val.2 0
        have zf1 := K2.out.2.2.2.val.2 1
        have zf2 := K2.out.2.2.2.val.2 2
        have zf3 := K2.out.2.2.2.val.2 3
        have zf4 := K2.out.2.2.2.val.2 4
        clear C1' C2' C4' CN K2 QG
        go_wp2_with fail
        have bb := HB.out
        exact bodyPost_ret (v := .agg #[.int .i64 ec, .string ⟨#[]⟩, .string ⟨#[]⟩, .string ⟨#[]⟩, .slice none 0 0]) (by simp [results, Tryz.results10, go_sem, z0, z1, z2, z3, z4]) rfl ⟨QB.out _ _ HC.out he0, (((((bb.setCell (by simp; omega) _).setCell (by simp; omega) _).setCell (by simp; omega) _).setCell (by simp; omega) _).setCell (by simp; omega) _)⟩
  · have HC := hidL (C1'.out hc0)
    have HB := hidL K1.out.1
    have z0 := K1.out.2.2.2.val.1 0 _ rfl
    have z1 := K1.out.2.2.2.val.1 1 _ rfl
    have z2 := K1.out.2.2.2.val.1 2 _ rfl
    have z3 := K1.out.2.2.2.val.1 3 _ rfl
    have z4 := K1.out.2.2.2.val.1 4 _ rfl
    have zf0 := K1.out.2.2.2.val.2 0
    have zf1 := K1.out.2.2.2.val.2 1
    have zf2 := K1.out.2.2.2.val.2 2
    have zf3 := K1.out.2.2.2.val.2 3
    have zf4 := K1.out.2.2.2.val.2 4
    clear C1' C2' C4' CN CE K1 QG
    go_wp2_with fail
    have bb := HB.out
    exact bodyPost_ret (v := .agg #[.int .i64 rc, .string ⟨#[]⟩, .string ⟨#[]⟩, .string ⟨#[]⟩, .slice none 0 0]) (by simp [results, Tryz.results10, go_sem, z0, z1, z2, z3, z4]) rfl ⟨QB.out _ _ HC.out hc0, (((((bb.setCell (by simp; omega) _).setCell (by simp; omega) _).setCell (by simp; omega) _).setCell (by simp; omega) _).setCell (by simp; omega) _)⟩
end Go.Proofs.YtolkgnnjocmkdaaGreatDoor
/-
  Requests that are copied, by the program (for seats without flights).
-/
namespace Go.Proofs.YtolkgnnjocmkdaaGreatDoor
open Go.ChangeShapes Go.WideShapes Go.ChangeAt Go.RowKit Go.Sort
theorem row_neR {w : World} {base : Nat} {e : TypeId} {size : Nat} {v : Value} {n : Nat} {xs : List Value} (h : w.ownsRow base e size v n xs) {A i : Nat} (u : Value) (hA : ∀ q, v.ownBlock = some q → q ≠ A) : (w.setCell ⟨A, i, none⟩ u).ownsRow base e size v n xs := by
  obtain ⟨h1, h2⟩ := h
  refine ⟨h1, ?_⟩
  rcases h2 with h2 | ⟨g, c, cur, e', hg, hh, hrest⟩
  · exact .inl h2
  · exact .inr ⟨g, c, cur, e', hg, by rw [heap_setCell_other w ⟨A, i, none⟩ g u (by have := hA g (by rw [e']; rfl); exact this)]; exact hh, hrest⟩
theorem off4R {X : World} {b c o : Nat} (x0 x1 x2 x3 : Value) (h : b ≠ c) : ((((X.setCell ⟨b, 0, none⟩ x0).setCell ⟨b, 1, none⟩ x1).setCell ⟨b, 2, none⟩ x2).setCell ⟨b, 3, none⟩ x3).cell? ⟨c, o, none⟩ = X.cell? ⟨c, o, none⟩ := by
  have ne : ∀ i : Nat, (⟨b, i, none⟩ : Addr) ≠ ⟨c, o, none⟩ := fun i e => h (congrArg Addr.block e)
  rw [World.cell?_setCell_other _ _ _ _ (ne _), World.cell?_setCell_other _ _ _ _ (ne _), World.cell?_setCell_other _ _ _ _ (ne _), World.cell?_setCell_other _ _ _ _ (ne _)]
set_option maxRecDepth 100000 in
set_option maxHeartbeats 8000000 in
theorem reqAnewR_any (w : World) (m h p : ByteArray) (ha : Option Addr) (hc : Nat) (hs : List Hdr) (hm : m.size ≤ 1048576) (hh : h.size ≤ 1048576) (hp : p.size ≤ 1048576) (hl : hs.length ≤ 1048576) (hsm : ∀ r ∈ hs, r.name.size ≤ 1048576 ∧ r.value.size ≤ 1048576) (hi : HdsIn w ha hs) :
    Calls Tryz.prog 63 #[.agg #[.string m, .string h, .string p, .slice ha hs.length hc]] w fun e w' => (∃ va vc, e = .returned (.agg #[.string m, .string h, .string p, .slice va hs.length vc]) ∧ RowH w' w.heap.size (.slice va hs.length vc) hs) ∧ Below w.heap.size w w' := by
  obtain ⟨W, hW⟩ : ∃ W, W = (w.alloc (.cells #[.string m, .string h, .string p, .slice ha hs.length hc] 35)).alloc (.cells #[.string ⟨#[]⟩, .string ⟨#[]⟩, .string ⟨#[]⟩, .slice none 0 0] 35) := ⟨_, rfl⟩
  have HW : Hid (W = (w.alloc (.cells #[.string m, .string h, .string p, .slice ha hs.length hc] 35)).alloc (.cells #[.string ⟨#[]⟩, .string ⟨#[]⟩, .string ⟨#[]⟩, .slice none 0 0] 35)) := hW
  have K0 : Hid (Below w.heap.size w W ∧ Four W w.heap.size (.string m) (.string h) (.string p) (.slice ha hs.length hc) ∧ Four W (w.heap.size + 1) (.string ⟨#[]⟩) (.string ⟨#[]⟩) (.string ⟨#[]⟩) (.slice none 0 0)) := by
    rw [hW]
    refine ⟨((Below.refl _ _).alloc (Nat.le_refl _) _).alloc (by simp) _, (Four.new w _ _ _ _ _).keep ((Below.refl _ _).alloc (Nat.le_refl _) _), ?_⟩
    have := Four.new (w.alloc (.cells #[.string m, .string h, .string p, .slice ha hs.length hc] 35)) (.string ⟨#[]⟩) (.string ⟨#[]⟩) (.string ⟨#[]⟩) (.slice none 0 0) 35
    simpa using this
  have CK : Hid (∀ (t : ByteArray) X, t.size ≤ 1048576 → Calls Tryz.prog 104 #[.string t] X fun e w' => e = .returned (.string t) ∧ Below X.heap.size X w') := fun t X ht => clone_text t X ht
  have CH : Hid (∀ X, Below w.heap.size w X → Calls Tryz.prog 108 #[.slice ha hs.length hc] X fun e w' => (∃ va vc, e = .returned (.slice va hs.length vc) ∧ RowH w' X.heap.size (.slice va hs.length vc) hs) ∧ Below X.heap.size X w') := fun X hX => (linesAnew_any X _ _ _ hl hsm (hi.keep hX)).mono fun e w' ⟨⟨v, q1, q2⟩, q3⟩ => by
    obtain ⟨va, vc, rfl, _⟩ := row_form q2
    exact ⟨⟨va, vc, q1, q2⟩, q3⟩
  clear hW hi hsm hl
  generalize hs.length = n at *
  have HKS : Hid (∀ X, Below W.heap.size W X → X.cell? ⟨w.heap.size, 0, none⟩ = some (.string m) ∧ X.cell? ⟨w.heap.size, 1, none⟩ = some (.string h) ∧ X.cell? ⟨w.heap.size, 2, none⟩ = some (.string p) ∧ X.cell? ⟨w.heap.size, 3, none⟩ = some (.slice ha n hc)) := fun X hX => by
    obtain ⟨c0, c1, c2, c3, _, _⟩ := K0.out.2.1.keep hX
    exact ⟨c0, c1, c2, c3⟩
  have BZ : Hid (Below W.heap.size W W.drew) := (Below.refl _ _).drew
  go_enter Tryz.func63, Tryz.ntmps63
  go_wp2_with fail
  rw [← HW.out]
  clear HW
  go_region_held3 (fun X => X.cell? ⟨w.heap.size, 0, none⟩ = some (.string m) ∧ X.cell? ⟨w.heap.size, 1, none⟩ = some (.string h) ∧ X.cell? ⟨w.heap.size, 2, none⟩ = some (.string p) ∧ X.cell? ⟨w.heap.size, 3, none⟩ = some (.slice ha n hc))
    (first | (with_reducible exact SF.out) | ((with_reducible refine HKS.out _ ?_); (with_reducible exact BD.out)) | ((with_reducible refine HKS.out _ ?_); (with_reducible exact BC.out)) | ((with_reducible refine HKS.out _ ?_); (with_reducible exact BB.out)) | ((with_reducible refine HKS.out _ ?_); (with_reducible exact BA.out)) | ((with_reducible refine HKS.out _ ?_); (with_reducible exact BZ.out)))
    (first
    | (go_at_call 104; (with_reducible refine (CK.out p u2 hp).mono ?_); rintro e0 u3 ⟨rfl, hb⟩; have BC : Hid (Below W.heap.size W u3) := BB.out.trans (hb.mono BB.out.size); clear hb)
    | (go_at_call 104; (with_reducible refine (CK.out h u1 hh).mono ?_); rintro e0 u2 ⟨rfl, hb⟩; have BB : Hid (Below W.heap.size W u2) := BA.out.trans (hb.mono BA.out.size); clear hb)
    | (go_at_call 104; (with_reducible refine (CK.out m _ hm).mono ?_); rintro e0 u1 ⟨rfl, hb⟩; have BA : Hid (Below W.heap.size W u1) := BZ.out.trans (hb.mono BZ.out.size); clear hb)
    | (go_at_call 108; (with_reducible refine (CH.out u3 (K0.out.1.trans (BC.out.mono K0.out.1.size))).mono ?_); rintro e0 u4 ⟨⟨va, vc, rfl, hrow⟩, hb⟩; have BD : Hid (Below W.heap.size W u4) := BC.out.trans (hb.mono BC.out.size); have HR : Hid (RowH u4 u3.heap.size (.slice va n vc) hs ∧ W.heap.size ≤ u3.heap.size) := ⟨hrow, BC.out.size⟩; have k4 := K0.out.2.2.keep BD.out; obtain ⟨z0, z1, z2, z3, zf, zl⟩ := k4; have zf0 := zf 0; have zf1 := zf 1; have zf2 := zf 2; have zf3 := zf 3; have SF : Hid (((((u4.setCell ⟨w.heap.size + 1, 0, none⟩ (.string m)).setCell ⟨w.heap.size + 1, 1, none⟩ (.string h)).setCell ⟨w.heap.size + 1, 2, none⟩ (.string p)).setCell ⟨w.heap.size + 1, 3, none⟩ (.slice va n vc)).cell? ⟨w.heap.size, 0, none⟩ = some (.string m) ∧ ((((u4.setCell ⟨w.heap.size + 1, 0, none⟩ (.string m)).setCell ⟨w.heap.size + 1, 1, none⟩ (.string h)).setCell ⟨w.heap.size + 1, 2, none⟩ (.string p)).setCell ⟨w.heap.size + 1, 3, none⟩ (.slice va n vc)).cell? ⟨w.heap.size, 1, none⟩ = some (.string h) ∧ ((((u4.setCell ⟨w.heap.size + 1, 0, none⟩ (.string m)).setCell ⟨w.heap.size + 1, 1, none⟩ (.string h)).setCell ⟨w.heap.size + 1, 2, none⟩ (.string p)).setCell ⟨w.heap.size + 1, 3, none⟩ (.slice va n vc)).cell? ⟨w.heap.size, 2, none⟩ = some (.string p) ∧ ((((u4.setCell ⟨w.heap.size + 1, 0, none⟩ (.string m)).setCell ⟨w.heap.size + 1, 1, none⟩ (.string h)).setCell ⟨w.heap.size + 1, 2, none⟩ (.string p)).setCell ⟨w.heap.size + 1, 3, none⟩ (.slice va n vc)).cell? ⟨w.heap.size, 3, none⟩ = some (.slice ha n hc)) := (by have q := HKS.out u4 BD.out; exact ⟨(off4R _ _ _ _ (by omega)).trans q.1, (off4R _ _ _ _ (by omega)).trans q.2.1, (off4R _ _ _ _ (by omega)).trans q.2.2.1, (off4R _ _ _ _ (by omega)).trans q.2.2.2⟩); clear hb hrow zf zl))
  have HF : Hid (RowH ((((u4.setCell ⟨w.heap.size + 1, 0, none⟩ (.string m)).setCell ⟨w.heap.size + 1, 1, none⟩ (.string h)).setCell ⟨w.heap.size + 1, 2, none⟩ (.string p)).setCell ⟨w.heap.size + 1, 3, none⟩ (.slice va n vc)) w.heap.size (.slice va n vc) hs ∧ Below w.heap.size w ((((u4.setCell ⟨w.heap.size + 1, 0, none⟩ (.string m)).setCell ⟨w.heap.size + 1, 1, none⟩ (.string h)).setCell ⟨w.heap.size + 1, 2, none⟩ (.string p)).setCell ⟨w.heap.size + 1, 3, none⟩ (.slice va n vc))) := by
    have hx := HR.out
    have hw1 : w.heap.size + 1 < W.heap.size := K0.out.2.2.lt
    have b4 := K0.out.1.trans (BD.out.mono K0.out.1.size)
    have hne : ∀ q, Value.ownBlock (.slice va n vc) = some q → q ≠ w.heap.size + 1 := fun q hq => by have := (World.ownsRow.lt hx.1 q hq).1; omega
    exact ⟨row_lower (row_neR (row_neR (row_neR (row_neR hx.1 _ hne) _ hne) _ hne) _ hne) (by omega), (((b4.setCell (by simp) _).setCell (by simp) _).setCell (by simp) _).setCell (by simp) _⟩
  go_wp2_with fail
  exact bodyPost_ret (v := .agg #[.string m, .string h, .string p, .slice va n vc]) (by simp [results, Tryz.results63, go_sem, z0, z1, z2, z3]) rfl ⟨⟨va, vc, rfl, HF.out.1⟩, HF.out.2⟩
end Go.Proofs.YtolkgnnjocmkdaaGreatDoor
/-
  Is it a key? The program's answer.
-/
namespace Go.Proofs.YtolkgnnjocmkdaaGreatDoor
open Go.ChangeShapes Go.WideShapes Go.ChangeAt Go.RowKit Go.Sort
set_option maxHeartbeats 2000000 in
theorem isKey_one (key : ByteArray) (b : Bool) (hb : decide (1 ≤ key.size ∧ key.size ≤ 500) = b) (w : World) : Calls Tryz.prog 76 #[.string key] w fun r w' => r = .returned (.bool b) ∧ w' = w := by
  by_cases c1 : key.size < 1
  · have e : b = false := by rw [← hb]; simp; omega
    subst e
    clear hb
    go_enter Tryz.func76, Tryz.ntmps76
    go_wp2_with fail
    go_ret
    exact ⟨rfl, rfl⟩
  · by_cases c2 : 500 < key.size
    · have e : b = false := by rw [← hb]; simp; omega
      subst e
      clear hb
      go_enter Tryz.func76, Tryz.ntmps76
      go_wp2_with fail
      go_ret
      have d : decide ((key.size : Int) ≤ 500) = false := by simp; omega
      exact ⟨by simp [d], rfl⟩
    · have e : b = true := by rw [← hb]; simp; omega
      subst e
      clear hb
      go_enter Tryz.func76, Tryz.ntmps76
      go_wp2_with fail
      go_ret
      have d : decide ((key.size : Int) ≤ 500) = true := by simp; omega
      exact ⟨by simp [d], rfl⟩
end Go.Proofs.YtolkgnnjocmkdaaGreatDoor
/-
  Is it an entry? The program's answer.
-/
namespace Go.Proofs.YtolkgnnjocmkdaaGreatDoor
open Go.ChangeShapes Go.WideShapes Go.ChangeAt Go.RowKit Go.Sort
set_option maxHeartbeats 8000000 in
theorem implEntry_any (w : World) (key : ByteArray) (st : Int) (ha : Option Addr) (hc : Nat) (ba : Option Addr) (bc : Nat) (t g l s e : Int) (b1 b2 : Bool) (ta : Option Addr) (tc : Nat) (pins : Int) (hs : List Hdr) (bn tn : Nat) (hk : key.size ≤ maxLen) (hhl : hs.length ≤ 1048576) (hbn : bn ≤ maxLen) (htn : tn ≤ maxLen) (hset : SetIs w) (hH : HdsIn w ha hs) :
    Calls Tryz.prog 39 #[.agg #[.string key, .int .i64 st, .slice ha hs.length hc, .slice ba bn bc, .int .i64 t, .int .i64 g, .int .i64 l, .int .i64 s, .int .i64 e, .bool b1, .bool b2, .slice ta tn tc, .int .i64 pins]] w fun r w' => r = .returned (.int .i64 (entryC key st pins hs bn tn t g l s e)) ∧ Below w.heap.size w w' := by
  have HK : Hid (Below w.heap.size w (w.alloc (.cells #[.string key, .int .i64 st, .slice ha hs.length hc, .slice ba bn bc, .int .i64 t, .int .i64 g, .int .i64 l, .int .i64 s, .int .i64 e, .bool b1, .bool b2, .slice ta tn tc, .int .i64 pins] 42)) ∧ E13 (w.alloc (.cells #[.string key, .int .i64 st, .slice ha hs.length hc, .slice ba bn bc, .int .i64 t, .int .i64 g, .int .i64 l, .int .i64 s, .int .i64 e, .bool b1, .bool b2, .slice ta tn tc, .int .i64 pins] 42)) w.heap.size (.string key) (.int .i64 st) (.slice ha hs.length hc) (.slice ba bn bc) (.int .i64 t) (.int .i64 g) (.int .i64 l) (.int .i64 s) (.int .i64 e) (.bool b1) (.bool b2) (.slice ta tn tc) (.int .i64 pins)) := ⟨(Below.refl _ _).alloc (Nat.le_refl _) _, E13.new w _ _ _ _ _ _ _ _ _ _ _ _ _ _⟩
  have HI : Hid (∀ w, Calls Tryz.prog 94 #[.int .i64 st] w fun r w' => r = .returned (.bool (stB st)) ∧ w' = w) := mayKeep_any st
  have HH : Hid (∀ X, Below w.heap.size w X → Calls Tryz.prog 95 #[.slice ha hs.length hc] X fun e w' => e = .returned (.int .i64 (headsC hs)) ∧ Below X.heap.size X w') := fun X hb => implHFault_any X ha hc hs hhl (hset.below hb) (hH.keep hb)
  have HM : Hid (∀ X, Calls Tryz.prog 96 #[.agg #[.int .i64 t, .int .i64 g, .int .i64 l, .int .i64 s, .int .i64 e, .bool b1, .bool b2]] X fun r w' => r = .returned (.int .i64 (metaC t g l s e)) ∧ Below X.heap.size X w') := fun X => implMeta_any t g l s e b1 b2 X
  obtain ⟨Z, hZ⟩ : ∃ Z, entryC key st pins hs bn tn t g l s e = Z := ⟨_, rfl⟩
  rw [hZ]
  unfold entryC at hZ
  obtain ⟨hcd, hhc⟩ : ∃ x, headsC hs = x := ⟨_, rfl⟩
  obtain ⟨mcd, hmc⟩ : ∃ x, metaC t g l s e = x := ⟨_, rfl⟩
  obtain ⟨sb, hsb⟩ : ∃ x, stB st = x := ⟨_, rfl⟩
  rw [hhc] at HH hZ
  rw [hmc] at HM hZ
  rw [hsb] at HI hZ
  clear hhc hmc hsb hH hhl hset
  generalize hs.length = hl at *
  unfold maxLen at hk hbn htn
  have HZ : Hid (_ = Z) := hZ
  clear hZ
  by_cases c1 : key.size < 1
  · have HIK : Hid (∀ w, Calls Tryz.prog 76 #[.string key] w fun r w' => r = .returned (.bool false) ∧ w' = w) := fun w => isKey_one key false (by simp; omega) w
    have HR := HZ.out
    rw [if_pos (.inl c1)] at HR
    rw [← HR]
    clear HR HZ
    go_enter Tryz.func39, Tryz.ntmps39
    go_wp2_with fail
    refine (HIK.out _).mono ?_
    rintro r wk ⟨rfl, rfl⟩
    go_wp2_with fail
    go_ret
    exact ⟨rfl, HK.out.1⟩
  by_cases c2 : 500 < key.size
  · have HIK : Hid (∀ w, Calls Tryz.prog 76 #[.string key] w fun r w' => r = .returned (.bool false) ∧ w' = w) := fun w => isKey_one key false (by simp; omega) w
    have HR := HZ.out
    rw [if_pos (.inr c2)] at HR
    rw [← HR]
    clear HR HZ
    go_enter Tryz.func39, Tryz.ntmps39
    go_wp2_with fail
    refine (HIK.out _).mono ?_
    rintro r wk ⟨rfl, rfl⟩
    go_wp2_with fail
    go_ret
    exact ⟨rfl, HK.out.1⟩
  have HIK : Hid (∀ w, Calls Tryz.prog 76 #[.string key] w fun r w' => r = .returned (.bool true) ∧ w' = w) := fun w => isKey_one key true (by simp; omega) w
  rw [if_neg (by omega)] at HZ
  cases sb
  · have HR := HZ.out
    rw [if_pos (Bool.false_and _)] at HR
    rw [← HR]
    clear HR HZ
    go_enter Tryz.func39, Tryz.ntmps39
    go_wp2_with fail
    refine (HIK.out _).mono ?_
    rintro r wk ⟨rfl, rfl⟩
    go_wp2_with fail
    refine (HI.out _).mono ?_
    rintro r w1 ⟨rfl, rfl⟩
    go_wp2_with fail
    go_ret
    exact ⟨rfl, HK.out.1⟩
  rw [Bool.true_and] at HZ
  by_cases p1 : pins < 0
  · have HR := HZ.out
    rw [if_pos (by unfold pinB; simp; omega)] at HR
    rw [← HR]
    clear HR HZ
    go_enter Tryz.func39, Tryz.ntmps39
    go_wp2_with fail
    refine (HIK.out _).mono ?_
    rintro r wk ⟨rfl, rfl⟩
    go_wp2_with fail
    refine (HI.out _).mono ?_
    rintro r w1 ⟨rfl, rfl⟩
    have q12 := HK.out.2.c12
    go_wp2_with fail
    go_ret
    exact ⟨rfl, HK.out.1⟩
  by_cases p2 : 20 < pins
  · have HR := HZ.out
    rw [if_pos (by unfold pinB; simp; omega)] at HR
    rw [← HR]
    clear HR HZ
    go_enter Tryz.func39, Tryz.ntmps39
    go_wp2_with fail
    refine (HIK.out _).mono ?_
    rintro r wk ⟨rfl, rfl⟩
    go_wp2_with fail
    refine (HI.out _).mono ?_
    rintro r w1 ⟨rfl, rfl⟩
    have q12 := HK.out.2.c12
    go_wp2_with fail
    go_ret
    exact ⟨rfl, HK.out.1⟩
  rw [if_neg (by unfold pinB; simp; omega)] at HZ
  by_cases c3 : hcd ≠ 0
  · have HR := HZ.out
    rw [if_pos c3] at HR
    rw [← HR]
    clear HR HZ
    go_enter Tryz.func39, Tryz.ntmps39
    go_wp2_with fail
    refine (HIK.out _).mono ?_
    rintro r wk ⟨rfl, rfl⟩
    go_wp2_with fail
    refine (HI.out _).mono ?_
    rintro r w1 ⟨rfl, rfl⟩
    have q12 := HK.out.2.c12
    have q2 := HK.out.2.c2
    go_wp2_with fail
    refine (HH.out _ HK.out.1).mono ?_
    rintro r w2 ⟨rfl, hb2⟩
    have HB2 : Hid (Below w.heap.size w w2) := HK.out.1.trans (hb2.mono HK.out.1.size)
    clear hb2
    go_wp2_with fail
    go_ret
    exact ⟨rfl, HB2.out⟩
  rw [if_neg c3] at HZ
  have c3' : hcd = 0 := by omega
  subst c3'
  clear c3
  by_cases c4 : 2000 < bn
  · have HR := HZ.out
    rw [if_pos (.inl c4)] at HR
    rw [← HR]
    clear HR HZ
    go_enter Tryz.func39, Tryz.ntmps39
    go_wp2_with fail
    refine (HIK.out _).mono ?_
    rintro r wk ⟨rfl, rfl⟩
    go_wp2_with fail
    refine (HI.out _).mono ?_
    rintro r w1 ⟨rfl, rfl⟩
    have q12 := HK.out.2.c12
    have q2 := HK.out.2.c2
    go_wp2_with fail
    refine (HH.out _ HK.out.1).mono ?_
    rintro r w2 ⟨rfl, hb2⟩
    have HK2 : Hid (Below w.heap.size w w2 ∧ E13 w2 w.heap.size (.string key) (.int .i64 st) (.slice ha hl hc) (.slice ba bn bc) (.int .i64 t) (.int .i64 g) (.int .i64 l) (.int .i64 s) (.int .i64 e) (.bool b1) (.bool b2) (.slice ta tn tc) (.int .i64 pins)) := ⟨HK.out.1.trans (hb2.mono HK.out.1.size), HK.out.2.keep hb2⟩
    clear hb2
    have k3 := HK2.out.2.c3
    have k4 := HK2.out.2.c4
    have k5 := HK2.out.2.c5
    have k6 := HK2.out.2.c6
    have k7 := HK2.out.2.c7
    have k8 := HK2.out.2.c8
    have k9 := HK2.out.2.c9
    have k10 := HK2.out.2.c10
    have k11 := HK2.out.2.c11
    go_wp2_with fail
    go_ret
    exact ⟨rfl, HK2.out.1⟩
  by_cases c5 : 10 < tn
  · have HR := HZ.out
    rw [if_pos (.inr c5)] at HR
    rw [← HR]
    clear HR HZ
    go_enter Tryz.func39, Tryz.ntmps39
    go_wp2_with fail
    refine (HIK.out _).mono ?_
    rintro r wk ⟨rfl, rfl⟩
    go_wp2_with fail
    refine (HI.out _).mono ?_
    rintro r w1 ⟨rfl, rfl⟩
    have q12 := HK.out.2.c12
    have q2 := HK.out.2.c2
    go_wp2_with fail
    refine (HH.out _ HK.out.1).mono ?_
    rintro r w2 ⟨rfl, hb2⟩
    have HK2 : Hid (Below w.heap.size w w2 ∧ E13 w2 w.heap.size (.string key) (.int .i64 st) (.slice ha hl hc) (.slice ba bn bc) (.int .i64 t) (.int .i64 g) (.int .i64 l) (.int .i64 s) (.int .i64 e) (.bool b1) (.bool b2) (.slice ta tn tc) (.int .i64 pins)) := ⟨HK.out.1.trans (hb2.mono HK.out.1.size), HK.out.2.keep hb2⟩
    clear hb2
    have k3 := HK2.out.2.c3
    have k4 := HK2.out.2.c4
    have k5 := HK2.out.2.c5
    have k6 := HK2.out.2.c6
    have k7 := HK2.out.2.c7
    have k8 := HK2.out.2.c8
    have k9 := HK2.out.2.c9
    have k10 := HK2.out.2.c10
    have k11 := HK2.out.2.c11
    go_wp2_with fail
    go_ret
    exact ⟨rfl, HK2.out.1⟩
  rw [if_neg (by omega)] at HZ
  · rw [← HZ.out]
    clear HZ
    go_enter Tryz.func39, Tryz.ntmps39
    go_wp2_with fail
    refine (HIK.out _).mono ?_
    rintro r wk ⟨rfl, rfl⟩
    go_wp2_with fail
    refine (HI.out _).mono ?_
    rintro r w1 ⟨rfl, rfl⟩
    have q12 := HK.out.2.c12
    have q2 := HK.out.2.c2
    go_wp2_with fail
    refine (HH.out _ HK.out.1).mono ?_
    rintro r w2 ⟨rfl, hb2⟩
    have HK2 : Hid (Below w.heap.size w w2 ∧ E13 w2 w.heap.size (.string key) (.int .i64 st) (.slice ha hl hc) (.slice ba bn bc) (.int .i64 t) (.int .i64 g) (.int .i64 l) (.int .i64 s) (.int .i64 e) (.bool b1) (.bool b2) (.slice ta tn tc) (.int .i64 pins)) := ⟨HK.out.1.trans (hb2.mono HK.out.1.size), HK.out.2.keep hb2⟩
    clear hb2
    have k3 := HK2.out.2.c3
    have k4 := HK2.out.2.c4
    have k5 := HK2.out.2.c5
    have k6 := HK2.out.2.c6
    have k7 := HK2.out.2.c7
    have k8 := HK2.out.2.c8
    have k9 := HK2.out.2.c9
    have k10 := HK2.out.2.c10
    have k11 := HK2.out.2.c11
    go_wp2_with fail
    refine (HM.out _).mono ?_
    rintro r w3 ⟨rfl, hb3⟩
    have HB3 : Hid (Below w.heap.size w w3) := HK2.out.1.trans (hb3.mono HK2.out.1.size)
    clear hb3
    go_wp2_with fail
    go_ret
    exact ⟨rfl, HB3.out⟩
end Go.Proofs.YtolkgnnjocmkdaaGreatDoor
/-
  FetchFor by the program: the lines that go to an origin.
-/
namespace Go.Proofs.YtolkgnnjocmkdaaGreatDoor
open Go.ChangeShapes Go.WideShapes Go.ChangeAt Go.RowKit Go.Sort
theorem f_field_heads (c : Int) (v : Value) (w : World) : (Instr.field 157 (.agg #[.int .i64 c, v]) 1).run Tryz.prog w = .ok v w := by kernel_rfl
theorem matchI_ask {l : List Hdr} (h0 : headsC l = 0) : askC l matchI = 0 ∧ dropL l matchI = dropH matchN l := by
  have e : askC l matchI = 0 := askC_word h0 (by decide +kernel)
  exact ⟨e, by unfold dropL; rw [if_pos e, matchI_low]⟩
theorem sinceI_ask {l : List Hdr} (h0 : headsC l = 0) : askC l sinceI = 0 ∧ dropL l sinceI = dropH sinceN l := by
  have e : askC l sinceI = 0 := askC_word h0 (by decide +kernel)
  exact ⟨e, by unfold dropL; rw [if_pos e, sinceI_low]⟩
set_option linter.unusedSimpArgs false in
set_option maxRecDepth 100000 in
set_option maxHeartbeats 8000000 in
theorem unmarked_any (w : World) (a : Option Addr) (cap : Nat) (l : List Hdr) (h0 : headsC l = 0) (hset : SetIs w) (hi : HdsIn w a l) :
    Calls Tryz.prog 64 #[.slice a l.length cap] w fun r w' => (∃ va vn vc, r = .returned (.slice va vn vc) ∧ OwnH w' w.heap.size (.slice va vn vc) (fetL l)) ∧ Below w.heap.size w w' := by
  obtain ⟨h20, _⟩ := first_sizes h0
  have C1 : Hid (∀ X, Below w.heap.size w X → Calls Tryz.prog 126 #[.slice a l.length cap, .string matchI] X fun e w' => (∃ va vn vc, e = .returned (.agg #[.int .i64 0, .slice va vn vc]) ∧ OwnH w' X.heap.size (.slice va vn vc) (dropH matchN l)) ∧ Below X.heap.size X w') := fun X hX => by
    have := implDrop_any X a cap l matchI (by omega) (hset.below hX) (hi.keep hX)
    rw [(matchI_ask h0).1, (matchI_ask h0).2] at this
    exact this.mono fun e w' ⟨⟨v, q1, q2⟩, q3⟩ => by
      obtain ⟨a2, c2, rfl, _⟩ := row_form q2
      exact ⟨⟨a2, _, c2, q1, q2⟩, q3⟩
  have C2 : Hid (∀ X lo va vn vc, Below w.heap.size w X → OwnH X lo (.slice va vn vc) (dropH matchN l) → Calls Tryz.prog 126 #[.slice va vn vc, .string sinceI] X fun e w' => (∃ va vn vc, e = .returned (.agg #[.int .i64 0, .slice va vn vc]) ∧ OwnH w' X.heap.size (.slice va vn vc) (fetL l)) ∧ Below X.heap.size X w') := fun X lo va vn vc hX k => by
    have e1 := k.n
    subst e1
    have g0 := drop_heads (x := matchN) h0
    have := implDrop_any X va vc _ sinceI (by have := (first_sizes g0).1; omega) (hset.below hX) k.inn
    rw [(sinceI_ask g0).1, (sinceI_ask g0).2] at this
    exact this.mono fun e w' ⟨⟨v, q1, q2⟩, q3⟩ => by
      obtain ⟨a2, c2, rfl, _⟩ := row_form q2
      exact ⟨⟨a2, _, c2, q1, q2⟩, q3⟩
  clear hi hset h0 h20
  generalize fetL l = L2 at *
  generalize dropH matchN l = L1 at *
  generalize l.length = n at *
  have hf := f_field_heads
  go_enter Tryz.func64, Tryz.ntmps64
  go_wp2_with fail
  refine (C1.out w (Below.refl _ _)).mono ?_
  rintro r0 w1 ⟨⟨va, vn, vc, rfl, ho⟩, hb⟩
  have K1 : Hid (Below w.heap.size w w1 ∧ OwnH w1 w.heap.size (.slice va vn vc) L1) := ⟨hb, ho⟩
  clear ho hb C1
  go_wp2_with fail
  refine (C2.out w1 _ va vn vc K1.out.1 K1.out.2).mono ?_
  rintro r0 w2 ⟨⟨xa, xn, xc, rfl, ho⟩, hb⟩
  have K2 : Hid (Below w.heap.size w w2 ∧ OwnH w2 w.heap.size (.slice xa xn xc) L2) := ⟨K1.out.1.trans (hb.mono K1.out.1.size), row_lower ho K1.out.1.size⟩
  clear ho hb C2 K1
  go_wp2_with fail
  go_ret
  exact ⟨⟨xa, xn, xc, rfl, K2.out.2⟩, K2.out.1⟩
end Go.Proofs.YtolkgnnjocmkdaaGreatDoor
/-
  FetchFor: what it answers, by the program.
-/
namespace Go.Proofs.YtolkgnnjocmkdaaGreatDoor
open Go.ChangeShapes Go.WideShapes Go.ChangeAt Go.RowKit Go.Sort
set_option linter.unusedSimpArgs false in
set_option maxRecDepth 100000 in
set_option maxHeartbeats 32000000 in
theorem implFetch_any (w : World) (m h p : ByteArray) (a : Option Addr) (cap : Nat) (l : List Hdr) (key : ByteArray) (st : Int) (ha : Option Addr) (hc : Nat) (ba : Option Addr) (bn bc : Nat) (t g lf s e : Int) (b1 b2 : Bool) (ta : Option Addr) (tn tc : Nat) (pins : Int) (hs : List Hdr) (has : Bool) (hl : l.length ≤ 1048576) (hk : key.size ≤ maxLen) (hhl : hs.length ≤ 1048576) (hbn : bn ≤ maxLen) (htn : tn ≤ maxLen) (hm1 : m.size ≤ 1048576) (hm2 : h.size ≤ 1048576) (hm3 : p.size ≤ 1048576) (hcap : l.length ≤ cap) (EE : Errs) (hset : SetIs w) (hE : ErrsIs w EE) (hi : HdsIn w a l) (hh : HdsIn w ha hs) :
    Calls Tryz.prog 13 #[.agg #[.string m, .string h, .string p, .slice a l.length cap], .agg #[.string key, .int .i64 st, .slice ha hs.length hc, .slice ba bn bc, .int .i64 t, .int .i64 g, .int .i64 lf, .int .i64 s, .int .i64 e, .bool b1, .bool b2, .slice ta tn tc, .int .i64 pins], .bool has] w fun r w' => FetRes (fetC (reqC m h p l) (entryC key st pins hs bn tn t g lf s e) has) h p (fetLs (fetC (reqC m h p l) (entryC key st pins hs bn tn t g lf s e) has) l hs has) w w' r ∧ Below w.heap.size w w' := by
  obtain ⟨W, hW⟩ : ∃ W, W = (((w.alloc (.cells #[.string m, .string h, .string p, .slice a l.length cap] 35)).alloc (.cells #[.string key, .int .i64 st, .slice ha hs.length hc, .slice ba bn bc, .int .i64 t, .int .i64 g, .int .i64 lf, .int .i64 s, .int .i64 e, .bool b1, .bool b2, .slice ta tn tc, .int .i64 pins] 42)).alloc (.cells #[.int .i64 0, .string ⟨#[]⟩, .string ⟨#[]⟩, .string ⟨#[]⟩, .slice none 0 0] 37)) := ⟨_, rfl⟩
  have HW : Hid (W = (((w.alloc (.cells #[.string m, .string h, .string p, .slice a l.length cap] 35)).alloc (.cells #[.string key, .int .i64 st, .slice ha hs.length hc, .slice ba bn bc, .int .i64 t, .int .i64 g, .int .i64 lf, .int .i64 s, .int .i64 e, .bool b1, .bool b2, .slice ta tn tc, .int .i64 pins] 42)).alloc (.cells #[.int .i64 0, .string ⟨#[]⟩, .string ⟨#[]⟩, .string ⟨#[]⟩, .slice none 0 0] 37))) := hW
  have KW : Hid (Below w.heap.size w W ∧ At w.heap.size (w.heap.size + 1) (Bx w.heap.size [.string m, .string h, .string p, .slice a l.length cap]) W ∧ At (w.heap.size + 1) (w.heap.size + 1 + 1) (Bx (w.heap.size + 1) [.string key, .int .i64 st, .slice ha hs.length hc, .slice ba bn bc, .int .i64 t, .int .i64 g, .int .i64 lf, .int .i64 s, .int .i64 e, .bool b1, .bool b2, .slice ta tn tc, .int .i64 pins]) W ∧ At (w.heap.size + 1 + 1) (w.heap.size + 1 + 1 + 1) (Bx (w.heap.size + 1 + 1) [.int .i64 0, .string ⟨#[]⟩, .string ⟨#[]⟩, .string ⟨#[]⟩, .slice none 0 0]) W) := by
    rw [hW]
    exact ⟨(((Below.refl _ _).alloc (Nat.le_refl _) _).alloc (by simp) _).alloc (by simp; omega) _, ((Bx.new _ [.string m, .string h, .string p, .slice a l.length cap] _).al _).al _, (Bx.newAt (by simp) [.string key, .int .i64 st, .slice ha hs.length hc, .slice ba bn bc, .int .i64 t, .int .i64 g, .int .i64 lf, .int .i64 s, .int .i64 e, .bool b1, .bool b2, .slice ta tn tc, .int .i64 pins] _).al _, Bx.newAt (by simp) [.int .i64 0, .string ⟨#[]⟩, .string ⟨#[]⟩, .string ⟨#[]⟩, .slice none 0 0] _⟩
  have CF : Hid (∀ X, Below w.heap.size w X → Calls Tryz.prog 52 #[.agg #[.string m, .string h, .string p, .slice a l.length cap]] X fun r w' => r = .returned (.int .i64 (reqC m h p l)) ∧ Below X.heap.size X w') := fun X hX => implReq_any EE X m h p a cap l hl hcap hm3 (hset.below hX) (hE.below hX) (hi.keep hX)
  have CE : Hid (∀ X, Below w.heap.size w X → Calls Tryz.prog 39 #[.agg #[.string key, .int .i64 st, .slice ha hs.length hc, .slice ba bn bc, .int .i64 t, .int .i64 g, .int .i64 lf, .int .i64 s, .int .i64 e, .bool b1, .bool b2, .slice ta tn tc, .int .i64 pins]] X fun r w' => r = .returned (.int .i64 (entryC key st pins hs bn tn t g lf s e)) ∧ Below X.heap.size X w') := fun X hX => implEntry_any X key st ha hc ba bc t g lf s e b1 b2 ta tc pins hs bn tn hk hhl hbn htn (hset.below hX) (hh.keep hX)
  have CA : Hid (reqC m h p l = 0 → ∀ X, Below w.heap.size w X → Calls Tryz.prog 63 #[.agg #[.string m, .string h, .string p, .slice a l.length cap]] X fun r w' => (∃ va vn vc, r = .returned (.agg #[.string m, .string h, .string p, .slice va vn vc])) ∧ Below X.heap.size X w') := fun h1 X hX => by
    obtain ⟨x1, x2⟩ := first_sizes (req_heads h1)
    exact (reqAnewR_any X m h p a cap l hm1 hm2 hm3 hl (fun r hr => by obtain ⟨j, hj⟩ := List.mem_iff_getElem?.1 hr; have := x2 j r hj; omega) (hi.keep hX)).mono fun r w' ⟨⟨va, vc, q1, _⟩, q3⟩ => ⟨⟨va, _, vc, q1⟩, q3⟩
  have CU : Hid (reqC m h p l = 0 → ∀ X, Below w.heap.size w X → Calls Tryz.prog 64 #[.slice a l.length cap] X fun r w' => (∃ va vn vc, r = .returned (.slice va vn vc) ∧ OwnH w' X.heap.size (.slice va vn vc) (fetL l)) ∧ Below X.heap.size X w') := fun h1 X hX => unmarked_any X a cap l (req_heads h1) (hset.below hX) (hi.keep hX)
  have CG : Hid (∀ X, Below w.heap.size w X → Calls Tryz.prog 51 #[.slice ha hs.length hc] X fun r w' => r = .returned (.agg #[.int .i64 (etagC hs), .string (etagT hs)]) ∧ Below X.heap.size X w') := fun X hX => implEtag_any X ha hc hs hhl (hset.below hX) (hh.keep hX)
  have CO : Hid (entryC key st pins hs bn tn t g lf s e = 0 → ∀ X, Calls Tryz.prog 65 #[.string matchI, .string (firstV etagN hs)] X fun r w' => r = .returned (.agg #[.string matchI, .string (firstV etagN hs)]) ∧ Below X.heap.size X w') := fun h1 X => lineOf_any _ _ X (by decide) (by have := firstV_size (x := etagN) (first_sizes (entryC_zero h1).2.2.2.1).2; omega)
  have HG1 : Hid (entryC key st pins hs bn tn t g lf s e = 0 → firstV etagN hs = ⟨#[]⟩ → etagC hs = 4) := fun h1 h2 => (etag_none (entryC_zero h1).2.2.2.1 h2).1
  have HG2 : Hid (entryC key st pins hs bn tn t g lf s e = 0 → ¬ firstV etagN hs = ⟨#[]⟩ → etagC hs = 0 ∧ etagT hs = firstV etagN hs) := fun h1 h2 => etag_some (entryC_zero h1).2.2.2.1 h2
  have HL0 : Hid (reqC m h p l = 0 → ∀ va vn vc X lo, OwnH X lo (.slice va vn vc) (fetL l) → vn = (fetL l).length ∧ vn ≤ 20) := fun h1 va vn vc X lo k => ⟨k.n, by have := fetL_len l; have := k.n; have := (first_sizes (req_heads h1)).1; omega⟩
  have HM1 : Hid (has = false → fetM l hs has = fetL l) := fun k => by unfold fetM; rw [if_neg (by simp [k])]
  have HM2 : Hid (firstV etagN hs = ⟨#[]⟩ → fetM l hs has = fetL l) := fun k => by unfold fetM; rw [if_neg (by simp [k])]
  have HM3 : Hid (¬ (fetL l).length < 19 → fetM l hs has = fetL l) := fun k => by unfold fetM; rw [if_neg (by simp [k])]
  have HM4 : Hid (has = true → ¬ firstV etagN hs = ⟨#[]⟩ → (fetL l).length < 19 → fetM l hs has = fetL l ++ [⟨matchI, firstV etagN hs⟩]) := fun k1 k2 k3 => by unfold fetM; rw [if_pos ⟨k1, k2, k3⟩]
  have HF := f_field_code
  clear hW hi hh hl hk hhl hbn htn hm1 hm2 hm3 hcap hset hE
  obtain ⟨Q, hQ⟩ : ∃ Q : World → Ending → Prop, Q = fun w' r => FetRes (fetC (reqC m h p l) (entryC key st pins hs bn tn t g lf s e) has) h p (fetLs (fetC (reqC m h p l) (entryC key st pins hs bn tn t g lf s e) has) l hs has) w w' r := ⟨_, rfl⟩
  have QB : Hid (∀ w' d, (fetC (reqC m h p l) (entryC key st pins hs bn tn t g lf s e) has) = d → d ≠ 0 → Q w' (.returned (.agg #[.int .i64 d, .string ⟨#[]⟩, .string ⟨#[]⟩, .string ⟨#[]⟩, .slice none 0 0]))) := fun w' d h1 h2 => by rw [hQ]; exact FetRes.bad h1 h2
  have QG : Hid ((fetC (reqC m h p l) (entryC key st pins hs bn tn t g lf s e) has) = 0 → ∀ w' ra rn rk, OwnH w' w.heap.size (.slice ra rn rk) (fetM l hs has) → Q w' (.returned (.agg #[.int .i64 0, .string getN, .string h, .string p, .slice ra rn rk]))) := fun h w' ra rn rk k => by rw [hQ]; exact FetRes.good h (OwnH.qr k k.n)
  show Calls _ _ _ _ fun r w' => FetRes (fetC (reqC m h p l) (entryC key st pins hs bn tn t g lf s e) has) h p (fetLs (fetC (reqC m h p l) (entryC key st pins hs bn tn t g lf s e) has) l hs has) w w' r ∧ Below w.heap.size w w'
  refine Calls.mono (R := fun r w' => Q w' r ∧ Below w.heap.size w w') ?_ (fun r w' h => by rw [hQ] at h; exact h)
  clear hQ
  have C1' : Hid (reqC m h p l ≠ 0 → (fetC (reqC m h p l) (entryC key st pins hs bn tn t g lf s e) has) = reqC m h p l) := fun h => by unfold fetC; rw [if_pos h]
  have C2' : Hid (reqC m h p l = 0 → has = true → (fetC (reqC m h p l) (entryC key st pins hs bn tn t g lf s e) has) = entryC key st pins hs bn tn t g lf s e) := fun h k => by unfold fetC; rw [if_neg (by simp [h]), if_pos k]
  have C4' : Hid (reqC m h p l = 0 → has = false → (fetC (reqC m h p l) (entryC key st pins hs bn tn t g lf s e) has) = 0) := fun h k => by unfold fetC; rw [if_neg (by simp [h]), if_neg (by simp [k])]
  generalize firstV etagN hs = EV at *
  generalize etagC hs = gC at *
  generalize etagT hs = gT at *
  generalize fetL l = L2 at *
  generalize (fetC (reqC m h p l) (entryC key st pins hs bn tn t g lf s e) has) = cc at *
  generalize fetM l hs has = M at *
  generalize reqC m h p l = rc at *
  generalize entryC key st pins hs bn tn t g lf s e = ec at *
  generalize l.length = ln at *
  generalize hs.length = hn at *
  clear HF
  go_enter Tryz.func13, Tryz.ntmps13
  have p0 := KW.out.2.1.val.1 0 _ rfl
  have p1 := KW.out.2.1.val.1 1 _ rfl
  have p2 := KW.out.2.1.val.1 2 _ rfl
  have p3 := KW.out.2.1.val.1 3 _ rfl
  rw [HW.out] at p0 p1 p2 p3
  go_wp2_with fail
  rw [← HW.out]
  refine (CF.out W KW.out.1).mono ?_
  rintro r0 w1 ⟨rfl, hb⟩
  have K1 : Hid (Below w.heap.size w w1 ∧ At w.heap.size (w.heap.size + 1) (Bx w.heap.size [.string m, .string h, .string p, .slice a ln cap]) w1 ∧ At (w.heap.size + 1) (w.heap.size + 1 + 1) (Bx (w.heap.size + 1) [.string key, .int .i64 st, .slice ha hn hc, .slice ba bn bc, .int .i64 t, .int .i64 g, .int .i64 lf, .int .i64 s, .int .i64 e, .bool b1, .bool b2, .slice ta tn tc, .int .i64 pins]) w1 ∧ At (w.heap.size + 1 + 1) (w.heap.size + 1 + 1 + 1) (Bx (w.heap.size + 1 + 1) [.int .i64 0, .string ⟨#[]⟩, .string ⟨#[]⟩, .string ⟨#[]⟩, .slice none 0 0]) w1) := ⟨KW.out.1.trans (hb.mono KW.out.1.size), KW.out.2.1.keep hb, KW.out.2.2.1.keep hb, KW.out.2.2.2.keep hb⟩
  clear hb KW HW CF p0 p1 p2 p3
  by_cases hc0 : rc = 0
  · have E0 : Hid (rc = 0) := hc0
    subst hc0
    have p0 := K1.out.2.1.val.1 0 _ rfl
    have p1 := K1.out.2.1.val.1 1 _ rfl
    have p2 := K1.out.2.1.val.1 2 _ rfl
    have p3 := K1.out.2.1.val.1 3 _ rfl
    go_wp2_with fail
    refine (CA.out (by trivial) w1 K1.out.1).mono ?_
    rintro r0 w2 ⟨⟨va, vn, vc, rfl⟩, hb⟩
    clear p0 p1 p2 p3
    have K2 : Hid (Below w.heap.size w w2 ∧ At w.heap.size (w.heap.size + 1) (Bx w.heap.size [.string m, .string h, .string p, .slice a ln cap]) w2 ∧ At (w.heap.size + 1) (w.heap.size + 1 + 1) (Bx (w.heap.size + 1) [.string key, .int .i64 st, .slice ha hn hc, .slice ba bn bc, .int .i64 t, .int .i64 g, .int .i64 lf, .int .i64 s, .int .i64 e, .bool b1, .bool b2, .slice ta tn tc, .int .i64 pins]) w2 ∧ At (w.heap.size + 1 + 1) (w.heap.size + 1 + 1 + 1) (Bx (w.heap.size + 1 + 1) [.int .i64 0, .string ⟨#[]⟩, .string ⟨#[]⟩, .string ⟨#[]⟩, .slice none 0 0]) w2) := ⟨K1.out.1.trans (hb.mono K1.out.1.size), K1.out.2.1.keep hb, K1.out.2.2.1.keep hb, K1.out.2.2.2.keep hb⟩
    clear hb K1 CA
    have p3 := (K2.out.2.1.al (.cells #[.string getN, .string h, .string p, .slice va vn vc] 35)).val.1 3 _ rfl
    obtain ⟨V, hV⟩ : ∃ V, V = w2.alloc (.cells #[.string getN, .string h, .string p, .slice va vn vc] 35) := ⟨_, rfl⟩
    have HV : Hid (V = w2.alloc (.cells #[.string getN, .string h, .string p, .slice va vn vc] 35)) := hV
    have aV : Below w2.heap.size w2 V := by rw [hV]; exact (Below.refl _ _).alloc (Nat.le_refl _) _
    have KV : Hid ((Below w.heap.size w V ∧ At w.heap.size (w.heap.size + 1) (Bx w.heap.size [.string m, .string h, .string p, .slice a ln cap]) V ∧ At (w.heap.size + 1) (w.heap.size + 1 + 1) (Bx (w.heap.size + 1) [.string key, .int .i64 st, .slice ha hn hc, .slice ba bn bc, .int .i64 t, .int .i64 g, .int .i64 lf, .int .i64 s, .int .i64 e, .bool b1, .bool b2, .slice ta tn tc, .int .i64 pins]) V ∧ At (w.heap.size + 1 + 1) (w.heap.size + 1 + 1 + 1) (Bx (w.heap.size + 1 + 1) [.int .i64 0, .string ⟨#[]⟩, .string ⟨#[]⟩, .string ⟨#[]⟩, .slice none 0 0]) V) ∧ At w2.heap.size (w2.heap.size + 1) (Bx w2.heap.size [.string getN, .string h, .string p, .slice va vn vc]) V ∧ w.heap.size + 1 + 1 + 1 ≤ w2.heap.size) := ⟨⟨K2.out.1.trans (aV.mono K2.out.1.size), K2.out.2.1.keep aV, K2.out.2.2.1.keep aV, K2.out.2.2.2.keep aV⟩, by rw [hV]; exact Bx.newAt rfl [.string getN, .string h, .string p, .slice va vn vc] _, K2.out.2.2.2.le⟩
    have CU1 := hidL (CU.out (by trivial) V KV.out.1.1)
    clear aV hV K2 CU
    go_wp2_with fail
    rw [← HV.out]
    clear p3 HV
    generalize w2.heap.size = O at *
    refine CU1.out.mono ?_
    rintro r0 w3 ⟨⟨ya, yn, yc, rfl, ho⟩, hb⟩
    have zO := (KV.out.2.1.keep hb).val.1 3 _ rfl
    have zF := (KV.out.2.1.keep hb).val.2 3
    obtain ⟨U, hU⟩ : ∃ U, U = w3.setCell ⟨O, 3, none⟩ (.slice ya yn yc) := ⟨_, rfl⟩
    have HU : Hid (U = w3.setCell ⟨O, 3, none⟩ (.slice ya yn yc)) := hU
    have HYN := hidL (HL0.out (by trivial) ya yn yc w3 _ ho)
    have K3 : Hid ((Below w.heap.size w U ∧ At w.heap.size (w.heap.size + 1) (Bx w.heap.size [.string m, .string h, .string p, .slice a ln cap]) U ∧ At (w.heap.size + 1) (w.heap.size + 1 + 1) (Bx (w.heap.size + 1) [.string key, .int .i64 st, .slice ha hn hc, .slice ba bn bc, .int .i64 t, .int .i64 g, .int .i64 lf, .int .i64 s, .int .i64 e, .bool b1, .bool b2, .slice ta tn tc, .int .i64 pins]) U ∧ At (w.heap.size + 1 + 1) (w.heap.size + 1 + 1 + 1) (Bx (w.heap.size + 1 + 1) [.int .i64 0, .string ⟨#[]⟩, .string ⟨#[]⟩, .string ⟨#[]⟩, .slice none 0 0]) U) ∧ OwnH U V.heap.size (.slice ya yn yc) L2 ∧ At O (O + 1) (Bx O [.string getN, .string h, .string p, .slice ya yn yc]) U ∧ w.heap.size + 1 + 1 + 1 ≤ O ∧ O < V.heap.size ∧ V.heap.size ≤ U.heap.size) := by
      have hOV := KV.out.2.1.le
      have hwO := KV.out.2.2
      rw [hU]
      exact ⟨⟨(KV.out.1.1.trans (hb.mono KV.out.1.1.size)).setCell (by simp; omega) _, (KV.out.1.2.1.keep hb).set _ (.inr (by omega)), (KV.out.1.2.2.1.keep hb).set _ (.inr (by omega)), (KV.out.1.2.2.2.keep hb).set _ (.inr (by omega))⟩, ownH_set ho (by omega), Bx.put (KV.out.2.1.keep hb) 3 _ (by simp), hwO, by omega, by simpa using hb.size⟩
    clear ho hb CU1 KV hU HL0
    cases has
    · have HC := hidL (C4'.out (by trivial) (by trivial))
      have HM := hidL (HM1.out (by trivial))
      have HF := hidL (fet_put (b := w.heap.size + 1 + 1) (vs := [.int .i64 0, .string getN, .string h, .string p, .slice ya yn yc]) K3.out.1.1 K3.out.2.1 (by omega) (by have := K3.out.2.2.2; omega))
      rw [← HM.out, HU.out] at HF
      have z0 := K3.out.1.2.2.2.val.1 0 _ rfl
      have z1 := K3.out.1.2.2.2.val.1 1 _ rfl
      have z2 := K3.out.1.2.2.2.val.1 2 _ rfl
      have z3 := K3.out.1.2.2.2.val.1 3 _ rfl
      have z4 := K3.out.1.2.2.2.val.1 4 _ rfl
      have zf0 := K3.out.1.2.2.2.val.2 0
      have zf1 := K3.out.1.2.2.2.val.2 1
      have zf2 := K3.out.1.2.2.2.val.2 2
      have zf3 := K3.out.1.2.2.2.val.2 3
      have zf4 := K3.out.1.2.2.2.val.2 4
      have y0 := K3.out.2.2.1.val.1 0 _ rfl
      have y1 := K3.out.2.2.1.val.1 1 _ rfl
      have y2 := K3.out.2.2.1.val.1 2 _ rfl
      have y3 := K3.out.2.2.1.val.1 3 _ rfl
      rw [HU.out] at z0 z1 z2 z3 z4 zf0 zf1 zf2 zf3 zf4 y0 y1 y2 y3
      clear K3 CE C1' C2' C4' CG CO HG1 HG2 HM1 HM2 HM3 HM4 HM HU
      go_wp2_with fail
      exact bodyPost_ret (v := .agg #[.int .i64 0, .string getN, .string h, .string p, .slice ya yn yc]) (by simp [results, Tryz.results13, go_sem, z0, z1, z2, z3, z4]) rfl ⟨QG.out HC.out _ _ _ _ HF.out.1, HF.out.2⟩
    · have HC := hidL (C2'.out (by trivial) (by trivial))
      have q0 := K3.out.1.2.2.1.val.1 0 _ rfl
      have q1 := K3.out.1.2.2.1.val.1 1 _ rfl
      have q2 := K3.out.1.2.2.1.val.1 2 _ rfl
      have q3 := K3.out.1.2.2.1.val.1 3 _ rfl
      have q4 := K3.out.1.2.2.1.val.1 4 _ rfl
      have q5 := K3.out.1.2.2.1.val.1 5 _ rfl
      have q6 := K3.out.1.2.2.1.val.1 6 _ rfl
      have q7 := K3.out.1.2.2.1.val.1 7 _ rfl
      have q8 := K3.out.1.2.2.1.val.1 8 _ rfl
      have q9 := K3.out.1.2.2.1.val.1 9 _ rfl
      have q10 := K3.out.1.2.2.1.val.1 10 _ rfl
      have q11 := K3.out.1.2.2.1.val.1 11 _ rfl
      have q12 := K3.out.1.2.2.1.val.1 12 _ rfl
      rw [HU.out] at q0 q1 q2 q3 q4 q5 q6 q7 q8 q9 q10 q11 q12
      go_wp2_with fail
      rw [← HU.out]
      refine (CE.out U K3.out.1.1).mono ?_
      rintro r0 w4 ⟨rfl, hb⟩
      clear q0 q1 q2 q3 q4 q5 q6 q7 q8 q9 q10 q11 q12
      have K4 : Hid ((Below w.heap.size w w4 ∧ At w.heap.size (w.heap.size + 1) (Bx w.heap.size [.string m, .string h, .string p, .slice a ln cap]) w4 ∧ At (w.heap.size + 1) (w.heap.size + 1 + 1) (Bx (w.heap.size + 1) [.string key, .int .i64 st, .slice ha hn hc, .slice ba bn bc, .int .i64 t, .int .i64 g, .int .i64 lf, .int .i64 s, .int .i64 e, .bool b1, .bool b2, .slice ta tn tc, .int .i64 pins]) w4 ∧ At (w.heap.size + 1 + 1) (w.heap.size + 1 + 1 + 1) (Bx (w.heap.size + 1 + 1) [.int .i64 0, .string ⟨#[]⟩, .string ⟨#[]⟩, .string ⟨#[]⟩, .slice none 0 0]) w4) ∧ OwnH w4 V.heap.size (.slice ya yn yc) L2 ∧ At O (O + 1) (Bx O [.string getN, .string h, .string p, .slice ya yn yc]) w4 ∧ w.heap.size + 1 + 1 + 1 ≤ O ∧ O < V.heap.size ∧ V.heap.size ≤ w4.heap.size) := ⟨⟨K3.out.1.1.trans (hb.mono K3.out.1.1.size), K3.out.1.2.1.keep hb, K3.out.1.2.2.1.keep hb, K3.out.1.2.2.2.keep hb⟩, K3.out.2.1.below hb, K3.out.2.2.1.keep hb, K3.out.2.2.2.1, K3.out.2.2.2.2.1, Nat.le_trans K3.out.2.2.2.2.2 hb.size⟩
      clear hb K3 CE HU zO zF
      by_cases he0 : ec = 0
      · subst he0
        have q2 := K4.out.1.2.2.1.val.1 2 _ rfl
        go_wp2_with fail
        refine (CG.out w4 K4.out.1.1).mono ?_
        rintro r0 w5 ⟨rfl, hb⟩
        clear q2
        obtain ⟨X, hX⟩ : ∃ X, X = w5.alloc (.cells #[.int .i64 gC, .string gT] 85) := ⟨_, rfl⟩
        have HX : Hid (X = w5.alloc (.cells #[.int .i64 gC, .string gT] 85)) := hX
        have aX : Below w5.heap.size w5 X := by rw [hX]; exact (Below.refl _ _).alloc (Nat.le_refl _) _
        have b5 := hb.trans (aX.mono hb.size)
        have K5 : Hid ((Below w.heap.size w X ∧ At w.heap.size (w.heap.size + 1) (Bx w.heap.size [.string m, .string h, .string p, .slice a ln cap]) X ∧ At (w.heap.size + 1) (w.heap.size + 1 + 1) (Bx (w.heap.size + 1) [.string key, .int .i64 st, .slice ha hn hc, .slice ba bn bc, .int .i64 t, .int .i64 g, .int .i64 lf, .int .i64 s, .int .i64 e, .bool b1, .bool b2, .slice ta tn tc, .int .i64 pins]) X ∧ At (w.heap.size + 1 + 1) (w.heap.size + 1 + 1 + 1) (Bx (w.heap.size + 1 + 1) [.int .i64 0, .string ⟨#[]⟩, .string ⟨#[]⟩, .string ⟨#[]⟩, .slice none 0 0]) X) ∧ OwnH X V.heap.size (.slice ya yn yc) L2 ∧ At O (O + 1) (Bx O [.string getN, .string h, .string p, .slice ya yn yc]) X ∧ w.heap.size + 1 + 1 + 1 ≤ O ∧ O < V.heap.size ∧ V.heap.size ≤ X.heap.size ∧ At w5.heap.size (w5.heap.size + 1) (Bx w5.heap.size [.int .i64 gC, .string gT]) X ∧ V.heap.size ≤ w5.heap.size) := ⟨⟨K4.out.1.1.trans (b5.mono K4.out.1.1.size), K4.out.1.2.1.keep b5, K4.out.1.2.2.1.keep b5, K4.out.1.2.2.2.keep b5⟩, K4.out.2.1.below b5, K4.out.2.2.1.keep b5, K4.out.2.2.2.1, K4.out.2.2.2.2.1, Nat.le_trans K4.out.2.2.2.2.2 b5.size, by rw [hX]; exact Bx.newAt rfl [.int .i64 gC, .string gT] _, Nat.le_trans K4.out.2.2.2.2.2 hb.size⟩
        have HB5 : Hid (∀ b, (Value.slice ya yn yc).ownBlock = some b → b < w5.heap.size) := fun b hb' => Nat.lt_of_lt_of_le (World.ownsRow.lt K4.out.2.1 b hb').2 hb.size
        clear hb aX b5 hX K4 CG
        have m0 := K5.out.2.2.2.2.2.2.1.val.1 0 _ rfl
        have m1 := K5.out.2.2.2.2.2.2.1.val.1 1 _ rfl
        have y0 := K5.out.2.2.1.val.1 0 _ rfl
        have y1 := K5.out.2.2.1.val.1 1 _ rfl
        have y2 := K5.out.2.2.1.val.1 2 _ rfl
        have y3 := K5.out.2.2.1.val.1 3 _ rfl
        have z0 := K5.out.1.2.2.2.val.1 0 _ rfl
        have z1 := K5.out.1.2.2.2.val.1 1 _ rfl
        have z2 := K5.out.1.2.2.2.val.1 2 _ rfl
        have z3 := K5.out.1.2.2.2.val.1 3 _ rfl
        have z4 := K5.out.1.2.2.2.val.1 4 _ rfl
        have zf0 := K5.out.1.2.2.2.val.2 0
        have zf1 := K5.out.1.2.2.2.val.2 1
        have zf2 := K5.out.1.2.2.2.val.2 2
        have zf3 := K5.out.1.2.2.2.val.2 3
        have zf4 := K5.out.1.2.2.2.val.2 4
        rw [HX.out] at m0 m1 z0 z1 z2 z3 z4 zf0 zf1 zf2 zf3 zf4 y0 y1 y2 y3
        by_cases hE : EV = ⟨#[]⟩
        · have HM := hidL (HM2.out hE)
          have hg := HG1.out (by trivial) hE
          have HF := hidL (fet_put (b := w.heap.size + 1 + 1) (vs := [.int .i64 0, .string getN, .string h, .string p, .slice ya yn yc]) K5.out.1.1 K5.out.2.1 (by omega) (by have := K5.out.2.2.2; omega))
          rw [← HM.out, HX.out] at HF
          clear K5 C1' C2' C4' CO HG1 HG2 HM1 HM2 HM3 HM4 HM HX
          subst hg
          go_wp2_with fail
          exact bodyPost_ret (v := .agg #[.int .i64 0, .string getN, .string h, .string p, .slice ya yn yc]) (by simp [results, Tryz.results13, go_sem, z0, z1, z2, z3, z4]) rfl ⟨QG.out HC.out _ _ _ _ HF.out.1, HF.out.2⟩
        obtain ⟨hg, hgt⟩ := HG2.out (by trivial) hE
        subst hg
        subst hgt
        by_cases hy : L2.length < 19
        · have HM := hidL (HM4.out (by trivial) hE hy)
          have hy' : (yn : Int) < 19 := by have := HYN.out.1; omega
          clear HM1 HM2 HM3 HM4 HG1 HG2 C1' C2' C4'
          go_wp2_with fail
          rw [← HX.out]
          clear m0 m1 z0 z1 z2 z3 z4 zf0 zf1 zf2 zf3 zf4 y0 y1 y2 y3 HX hE
          generalize w5.heap.size = D at *
          have HKS : Hid (∀ Y, Below X.heap.size X Y → (fun Y : World => Y.cell? ⟨O, 3, none⟩ = some (.slice ya yn yc) ∧ Y.cell? ⟨D, 1, none⟩ = some (.string gT)) Y) := fun Y hY => ⟨(K5.out.2.2.1.keep hY).val.1 3 _ rfl, (K5.out.2.2.2.2.2.2.1.keep hY).val.1 1 _ rfl⟩
          have B0 : Hid (Below X.heap.size X X.drew) := (Below.refl _ _).drew
          have HS0 := hidL (HKS.out _ B0.out)
          refine wp_region_last (fun Y : World => Y.cell? ⟨O, 3, none⟩ = some (.slice ya yn yc) ∧ Y.cell? ⟨D, 1, none⟩ = some (.string gT)) 8 (by kernel_rfl) ?_
          refine butLast_take (i := 0) (v := .pointer (some ⟨O, 3, none⟩)) rfl (by kernel_rfl) (by kernel_rfl) (by kernel_rfl) (by kernel_rfl) (fun _ _ _ h => h) (Or.inl ⟨by kernel_rfl, ?_⟩) HS0.out ?_
          · rintro X ⟨s1, s2⟩
            go_simp
          try simp only [Act.put, List.setIfInBounds_toArray, List.set_cons_zero, List.set_cons_succ]
          refine butLast_take (i := 1) (v := .slice ya yn yc) rfl (by kernel_rfl) (by kernel_rfl) (by kernel_rfl) (by kernel_rfl) (fun _ _ _ h => h) (Or.inl ⟨by kernel_rfl, ?_⟩) HS0.out ?_
          · rintro X ⟨s1, s2⟩
            go_simp
          try simp only [Act.put, List.setIfInBounds_toArray, List.set_cons_zero, List.set_cons_succ]
          refine butLast_take (i := 2) (v := .pointer (some ⟨D, 1, none⟩)) rfl (by kernel_rfl) (by kernel_rfl) (by kernel_rfl) (by kernel_rfl) (fun _ _ _ h => h) (Or.inl ⟨by kernel_rfl, ?_⟩) HS0.out ?_
          · rintro X ⟨s1, s2⟩
            go_simp
          try simp only [Act.put, List.setIfInBounds_toArray, List.set_cons_zero, List.set_cons_succ]
          refine butLast_take (i := 3) (v := .string gT) rfl (by kernel_rfl) (by kernel_rfl) (by kernel_rfl) (by kernel_rfl) (fun _ _ _ h => h) (Or.inl ⟨by kernel_rfl, ?_⟩) HS0.out ?_
          · rintro X ⟨s1, s2⟩
            go_simp
          try simp only [Act.put, List.setIfInBounds_toArray, List.set_cons_zero, List.set_cons_succ]
          refine butLast_one (i := 4) rfl (by kernel_rfl) (fun K hK => ?_)
          go_simp
          refine (CO.out (by trivial) _).mono ?_
          rintro r0 wa ⟨rfl, hb⟩
          have BA : Hid (Below X.heap.size X wa) := B0.out.trans (hb.mono B0.out.size)
          clear hb
          refine hK _ _ (.inr (HKS.out _ BA.out)) ?_
          clear hK K
          try simp only [Act.put, List.setIfInBounds_toArray, List.set_cons_zero, List.set_cons_succ]
          have BB : Hid (Below X.heap.size X (wa.alloc (.cells #[.string matchI, .string gT] 110))) := BA.out.alloc BA.out.size _
          refine butLast_one (i := 5) rfl (by kernel_rfl) (fun K hK => ?_)
          go_simp
          refine hK _ _ (.inr (HKS.out _ BB.out)) ?_
          clear hK K
          try simp only [Act.put, List.setIfInBounds_toArray, List.set_cons_zero, List.set_cons_succ]
          obtain ⟨X3, hX3⟩ : ∃ X3, X3 = wa.alloc (.cells #[.string matchI, .string gT] 110) := ⟨_, rfl⟩
          have N3 : Hid (X3.cell? ⟨wa.heap.size, 0, none⟩ = some (.string matchI) ∧ X3.cell? ⟨wa.heap.size, 1, none⟩ = some (.string gT)) := by rw [hX3]; exact ⟨by simp, by simp⟩
          rw [← hX3] at BB ⊢
          clear hX3
          have O3 := hidL (K5.out.2.1.below BB.out)
          have bs3 : Hid (V.heap.size ≤ X3.heap.size) := Nat.le_trans K5.out.2.2.2.2.2.1 BB.out.size
          refine butLast_one (i := 6) rfl (by kernel_rfl) (fun K hK => ?_)
          refine step_append1H X3 (by rfl) _ _ (by rfl) V.heap.size _ L2 ⟨matchI, gT⟩ wa.heap.size (by rfl) O3.out (by rfl) N3.out.1 N3.out.2 (by omega) bs3.out ?_
          intro ga gn gc w6 h41 h42
          have hn1 : ∀ b, (Value.slice ya yn yc).ownBlock = some b → V.heap.size ≤ b ∧ b < D := fun b hb => ⟨own_geH K5.out.2.1 b hb, HB5.out b hb⟩
          have hq := K5.out.2.2.2
          have bX := K5.out.1.1.trans (BB.out.mono K5.out.1.1.size)
          have O5 := (K5.out.2.2.1.keep BB.out).gr h42 (fun b hb => .inr (by have := hn1 b hb; omega))
          have D5 := (K5.out.2.2.2.2.2.2.1.keep BB.out).gr h42 (fun b hb => .inl (by have := hn1 b hb; omega))
          have R5 := (K5.out.1.2.2.2.keep BB.out).gr h42 (fun b hb => .inr (by have := hn1 b hb; omega))
          have W5 : Below w.heap.size w w6 := bX.trans ⟨h42.os, h42.tape, h42.output, h42.size, fun k hk => h42.block k (Nat.lt_of_lt_of_le hk bX.size) (fun e => by have := hn1 k e.symm; omega)⟩
          have K6 : Hid (Below w.heap.size w w6 ∧ At (w.heap.size + 1 + 1) (w.heap.size + 1 + 1 + 1) (Bx (w.heap.size + 1 + 1) [.int .i64 0, .string ⟨#[]⟩, .string ⟨#[]⟩, .string ⟨#[]⟩, .slice none 0 0]) w6 ∧ OwnH w6 V.heap.size (.slice ga gn gc) (L2 ++ [⟨matchI, gT⟩]) ∧ At O (O + 1) (Bx O [.string getN, .string h, .string p, .slice ya yn yc]) w6 ∧ w.heap.size + 1 + 1 + 1 ≤ O ∧ O < V.heap.size) := ⟨W5, R5, h41, O5, hq.1, hq.2.1⟩
          have HS5 := hidL (show w6.cell? ⟨O, 3, none⟩ = some (.slice ya yn yc) ∧ w6.cell? ⟨D, 1, none⟩ = some (.string gT) from ⟨O5.val.1 3 _ rfl, D5.val.1 1 _ rfl⟩)
          clear h41 h42 hn1 hq bX O5 D5 R5 W5 O3 bs3 N3 BA BB B0 HS0 HKS K5 CO HB5
          refine hK _ _ (.inr HS5.out) ?_
          clear hK K
          try simp only [Act.put, List.setIfInBounds_toArray, List.set_cons_zero, List.set_cons_succ]
          refine butLast_one (i := 7) rfl (by kernel_rfl) (fun K hK => ?_)
          go_simp
          refine hK _ _ (.inr HS5.out) ?_
          clear hK K
          try simp only [Act.put, List.setIfInBounds_toArray, List.set_cons_zero, List.set_cons_succ]
          have y3 := K6.out.2.2.2.1.val.1 3 _ rfl
          have yf3 := K6.out.2.2.2.1.val.2 3
          refine butLast_one (i := 8) rfl (by kernel_rfl) (fun K hK => ?_)
          go_simp
          refine hK _ _ (.inl rfl) ?_
          clear hK K
          refine butLast_end (by kernel_rfl) ?_
          have K7 : Hid (Below w.heap.size w (w6.setCell ⟨O, 3, none⟩ (.slice ga gn gc)) ∧ At (w.heap.size + 1 + 1) (w.heap.size + 1 + 1 + 1) (Bx (w.heap.size + 1 + 1) [.int .i64 0, .string ⟨#[]⟩, .string ⟨#[]⟩, .string ⟨#[]⟩, .slice none 0 0]) (w6.setCell ⟨O, 3, none⟩ (.slice ga gn gc)) ∧ OwnH (w6.setCell ⟨O, 3, none⟩ (.slice ga gn gc)) V.heap.size (.slice ga gn gc) M ∧ At O (O + 1) (Bx O [.string getN, .string h, .string p, .slice ga gn gc]) (w6.setCell ⟨O, 3, none⟩ (.slice ga gn gc))) := by
            have hq := K6.out.2.2.2.2
            refine ⟨K6.out.1.setCell (by simp; omega) _, K6.out.2.1.set _ (.inr (by omega)), ?_, Bx.put K6.out.2.2.2.1 3 _ (by simp)⟩
            rw [HM.out]
            exact ownH_set K6.out.2.2.1 hq.2
          have HF := hidL (fet_put (b := w.heap.size + 1 + 1) (vs := [.int .i64 0, .string getN, .string h, .string p, .slice ga gn gc]) K7.out.1 K7.out.2.2.1 (by omega) (by have := K6.out.2.2.2.2; omega))
          have z0 := K7.out.2.1.val.1 0 _ rfl
          have z1 := K7.out.2.1.val.1 1 _ rfl
          have z2 := K7.out.2.1.val.1 2 _ rfl
          have z3 := K7.out.2.1.val.1 3 _ rfl
          have z4 := K7.out.2.1.val.1 4 _ rfl
          have zf0 := K7.out.2.1.val.2 0
          have zf1 := K7.out.2.1.val.2 1
          have zf2 := K7.out.2.1.val.2 2
          have zf3 := K7.out.2.1.val.2 3
          have zf4 := K7.out.2.1.val.2 4
          have x0 := K7.out.2.2.2.val.1 0 _ rfl
          have x1 := K7.out.2.2.2.val.1 1 _ rfl
          have x2 := K7.out.2.2.2.val.1 2 _ rfl
          have x3 := K7.out.2.2.2.val.1 3 _ rfl
          clear y3 yf3 K6 K7 HS5
          go_wp2_with fail
          exact bodyPost_ret (v := .agg #[.int .i64 0, .string getN, .string h, .string p, .slice ga gn gc]) (by simp [results, Tryz.results13, go_sem, z0, z1, z2, z3, z4]) rfl ⟨QG.out HC.out _ _ _ _ HF.out.1, HF.out.2⟩
        · have HM := hidL (HM3.out hy)
          have hy' : ¬ (yn : Int) < 19 := by have := HYN.out.1; omega
          have HF := hidL (fet_put (b := w.heap.size + 1 + 1) (vs := [.int .i64 0, .string getN, .string h, .string p, .slice ya yn yc]) K5.out.1.1 K5.out.2.1 (by omega) (by have := K5.out.2.2.2; omega))
          rw [← HM.out, HX.out] at HF
          clear K5 C1' C2' C4' CO HG1 HG2 HM1 HM2 HM3 HM4 HM HX hE
          go_wp2_with fail
          exact bodyPost_ret (v := .agg #[.int .i64 0, .string getN, .string h, .string p, .slice ya yn yc]) (by simp [results, Tryz.results13, go_sem, z0, z1, z2, z3, z4]) rfl ⟨QG.out HC.out _ _ _ _ HF.out.1, HF.out.2⟩
      · have HB := hidL K4.out.1.1
        have z0 := K4.out.1.2.2.2.val.1 0 _ rfl
        have z1 := K4.out.1.2.2.2.val.1 1 _ rfl
        have z2 := K4.out.1.2.2.2.val.1 2 _ rfl
        have z3 := K4.out.1.2.2.2.val.1 3 _ rfl
        have z4 := K4.out.1.2.2.2.val.1 4 _ rfl
        have zf0 := K4.out.1.2.2.2.val.2 0
        have zf1 := K4.out.1.2.2.2.val.2 1
        have zf2 := K4.out.1.2.2.2.val.2 2
        have zf3 := K4.out.1.2.2.2.val.2 3
        have zf4 := K4.out.1.2.2.2.val.2 4
        clear C1' C2' C4' K4 QG CG CO HG1 HG2 HM1 HM2 HM3 HM4
        go_wp2_with fail
        have bb := HB.out
        exact bodyPost_ret (v := .agg #[.int .i64 ec, .string ⟨#[]⟩, .string ⟨#[]⟩, .string ⟨#[]⟩, .slice none 0 0]) (by simp [results, Tryz.results13, go_sem, z0, z1, z2, z3, z4]) rfl ⟨QB.out _ _ HC.out he0, (((((bb.setCell (by simp; omega) _).setCell (by simp; omega) _).setCell (by simp; omega) _).setCell (by simp; omega) _).setCell (by simp; omega) _)⟩
  · have HC := hidL (C1'.out hc0)
    have HB := hidL K1.out.1
    have z0 := K1.out.2.2.2.val.1 0 _ rfl
    have z1 := K1.out.2.2.2.val.1 1 _ rfl
    have z2 := K1.out.2.2.2.val.1 2 _ rfl
    have z3 := K1.out.2.2.2.val.1 3 _ rfl
    have z4 := K1.out.2.2.2.val.1 4 _ rfl
    have zf0 := K1.out.2.2.2.val.2 0
    have zf1 := K1.out.2.2.2.val.2 1
    have zf2 := K1.out.2.2.2.val.2 2
    have zf3 := K1.out.2.2.2.val.2 3
    have zf4 := K1.out.2.2.2.val.2 4
    clear C1' C2' C4' CE K1 QG CA CU CG CO HG1 HG2 HL0 HM1 HM2 HM3 HM4
    go_wp2_with fail
    have bb := HB.out
    exact bodyPost_ret (v := .agg #[.int .i64 rc, .string ⟨#[]⟩, .string ⟨#[]⟩, .string ⟨#[]⟩, .slice none 0 0]) (by simp [results, Tryz.results13, go_sem, z0, z1, z2, z3, z4]) rfl ⟨QB.out _ _ HC.out hc0, (((((bb.setCell (by simp; omega) _).setCell (by simp; omega) _).setCell (by simp; omega) _).setCell (by simp; omega) _).setCell (by simp; omega) _)⟩
end Go.Proofs.YtolkgnnjocmkdaaGreatDoor
/-
  The law of FetchFor.
-/
namespace Go.Proofs.YtolkgnnjocmkdaaGreatDoor
open Go.ChangeShapes Go.WideShapes Go.ChangeAt Go.RowKit Go.Sort
theorem fetLs_len {m h p : ByteArray} {l hs : List Hdr} {ec : Int} {has : Bool} : (fetLs (fetC (reqC m h p l) ec has) l hs has).length ≤ 20 := by
  unfold fetLs
  split
  · rename_i k
    have h1 : reqC m h p l = 0 := by
      unfold fetC at k
      split at k
      · exact k
      · rename_i h2; omega
    exact fetM_len l hs has (first_sizes (req_heads h1)).1
  · exact Nat.zero_le _
set_option maxHeartbeats 4000000 in
theorem lawFetchFor (E : Errs) (w : World) (m h p : ByteArray) (a : Option Addr) (cap : Nat) (l : List Hdr) (q : Ent) (r : EntR) (has : Bool) (hset : SetIs w) (hE : ErrsIs w E) (z1 : m.size ≤ maxLen) (z2 : h.size ≤ maxLen) (z3 : p.size ≤ maxLen) (hl : l.length ≤ maxLen) (hz : SmallHdrs l) (hi : HdsIn w a l) (he : EntIn w q r) (hs : EntSm q) :
    Calls Tryz.prog 3 #[.agg #[.string m, .string h, .string p, .slice a l.length cap], entV q r, .bool has] w fun e w' => e = .returned (.bool true) ∧ Below w.heap.size w w' := by
  have sr : ¬ szRq 1048576 m h p l < 0 → m.size ≤ 1048576 ∧ h.size ≤ 1048576 ∧ p.size ≤ 1048576 ∧ l.length ≤ 1048576 ∧ szRq 1048576 m h p l ≤ 1048576 := szRq_room (by omega)
  have sz : ¬ szRq 1048576 m h p l < 0 → ¬ szE (szRq 1048576 m h p l) q.key q.hs q.bl q.ts < 0 → EntFew q := fun h1 h2 => (entFew (sr h1).2.2.2.2 h2).1
  refine walk_Fetch w m h p a l.length cap q.key q.st r.ha q.hs.length r.hc r.ba q.bl.length r.bc q.t q.g q.l q.s q.e q.b1 q.b2 r.ta q.ts.length r.tc q.pins has (fetC (reqC m h p l) (entryC q.key q.st q.pins q.hs q.bl.length q.ts.length q.t q.g q.l q.s q.e) has) (fetS (fetC (reqC m h p l) (entryC q.key q.st q.pins q.hs q.bl.length q.ts.length q.t q.g q.l q.s q.e) has) getN) (fetS (fetC (reqC m h p l) (entryC q.key q.st q.pins q.hs q.bl.length q.ts.length q.t q.g q.l q.s q.e) has) h) (fetS (fetC (reqC m h p l) (entryC q.key q.st q.pins q.hs q.bl.length q.ts.length q.t q.g q.l q.s q.e) has) p) (szRq 1048576 m h p l) (szE (szRq 1048576 m h p l) q.key q.hs q.bl q.ts) (fun K => QM K l) (CEnt q) (QR (fetLs (fetC (reqC m h p l) (entryC q.key q.st q.pins q.hs q.bl.length q.ts.length q.t q.g q.l q.s q.e) has) l q.hs has)) (MQR (fetLs (fetC (reqC m h p l) (entryC q.key q.st q.pins q.hs q.bl.length q.ts.length q.t q.g q.l q.s q.e) has) l q.hs has)) ((1 + 2 * l.length : Nat) : Int) ((1 + 2 * l.length + 2 * q.hs.length + q.bl.length + q.ts.length : Nat) : Int) ((1 + 2 * (fetLs (fetC (reqC m h p l) (entryC q.key q.st q.pins q.hs q.bl.length q.ts.length q.t q.g q.l q.s q.e) has) l q.hs has).length : Nat) : Int) ?_ ?_ ?_ ?_ ?_ ?_ ?_ ?_ ?_ ?_ ?_ ?_ ?_ ?_ ?_
  · exact fun X hX => szRequest_any X m h p a cap l z1 z2 z3 hl hz (hi.keep hX) 1048576 (by omega) (by omega)
  · exact fun h1 X hX => entZ w q r he hs _ (by omega) (sr h1).2.2.2.2 X hX
  · exact fun h1 _ X hX => reqT w m h p a cap l (sr h1).2.2.2.1 hi X hX
  · exact fun h1 _ X la ha lb hb Kx Ky c d => reqQ m h p l (sr h1).2.2.2.1 X la ha lb hb Kx Ky c d
  · exact fun h1 _ X lo hi K c hb => reqM m h p l (sr h1).2.2.2.1 1 (Nat.le_refl _) (by omega) w.heap.size X lo hi K c hb
  · exact fun h1 h2 X hX => entT w q r he (sz h1 h2) X hX
  · exact fun h1 h2 => entQ q (sz h1 h2)
  · exact fun h1 h2 X lo hi K D J c hb => entM q (sz h1 h2) (1 + 2 * l.length) (by omega) (by have := (sr h1).2.2.2.1; omega) w.heap.size X lo hi K D J c hb
  · exact fun h1 h2 X l1 h1' K1 l2 h2' K2 D2 J2 _ c d => specFetch_any X m h p (some ⟨K1, 0, none⟩) l.length l q.key q.st (some ⟨K2, 0, none⟩) q.hs.length (some ⟨D2, 0, none⟩) q.bl.length q.bl.length q.t q.g q.l q.s q.e q.b1 q.b2 (some ⟨J2, 0, none⟩) q.ts.length q.ts.length q.pins q.hs has (sr h1).2.2.2.1 hs.key (sz h1 h2).h hs.bl hs.tl (.inr ⟨K1, 0, rfl, c.val.1.at0⟩) (.inr ⟨K2, 0, rfl, d.val.1.1.at0⟩)
  · exact fun h1 h2 X l1 h1' K1 l2 h2' K2 D2 J2 hX c d => implFetch_any X m h p (some ⟨K1, 0, none⟩) l.length l q.key q.st (some ⟨K2, 0, none⟩) q.hs.length (some ⟨D2, 0, none⟩) q.bl.length q.bl.length q.t q.g q.l q.s q.e q.b1 q.b2 (some ⟨J2, 0, none⟩) q.ts.length q.ts.length q.pins q.hs has (sr h1).2.2.2.1 hs.key (sz h1 h2).h hs.bl hs.tl (sr h1).1 (sr h1).2.1 (sr h1).2.2.1 (Nat.le_refl _) E (hset.below hX) (hE.below hX) (.inr ⟨K1, 0, rfl, c.val.1.at0⟩) (.inr ⟨K2, 0, rfl, d.val.1.1.at0⟩)
  · exact fun h1 h2 X la ha lb hb xa xn xk ya yn yk c d => qrQ _ _ _ _ _ (Nat.le_trans fetLs_len (by omega)) X la ha lb hb xa xn xk ya yn yk c d
  · exact fun h1 h2 X lo hi ra rn rk hX c hb => qrM _ _ _ _ _ (Nat.le_trans fetLs_len (by omega)) w.heap.size X lo hi ra rn rk c hb hX.size
  · exact fun h1 h2 X lo hi ra rn rk c => qrH _ _ _ _ _ (Nat.le_trans fetLs_len (by omega)) X lo hi ra rn rk c
  · omega
  · omega
end Go.Proofs.YtolkgnnjocmkdaaGreatDoor
/-
  Facts of the program as a whole that every card of this seat leans on: each reckoned by the kernel, each by itself.
-/
namespace Go.Proofs.YtolkgnnjocmkdaaGreatDoor
theorem pf_laid : laidOutB Tryz.prog = true := by kernel_rfl
theorem pf_maps : mapsRowed Tryz.prog = true := by kernel_rfl
theorem pf_stops : (Tryz.prog.stops == []) = true := by kernel_rfl
theorem pf_knobs : (Tryz.prog.stopKnobs == []) = true := by kernel_rfl
theorem pf_heard : Tryz.prog.stopsHeard = true := by kernel_rfl
theorem pf_enter : Tryz.prog.mayEnter = true := by kernel_rfl
theorem pf_prog : Tryz.pinned.checked.prog = Tryz.prog := by kernel_rfl
end Go.Proofs.YtolkgnnjocmkdaaGreatDoor
/-
  As many variables are read as are named.
-/
namespace Go.Proofs.YtolkgnnjocmkdaaGreatDoor
theorem trodVars_len {H : Type} {enc : TypeId × Value → H} {P : Program} {W : World} {sp : Nat → Bool} : ∀ {ns : List String} {gs : List (DataW H)} {ps : List MemPlace}, DataW.TrodVars enc P W sp ns gs ps → gs.length = ns.length
  | [], [], _, _ => rfl
  | [], _ :: _, _, h => h.elim
  | _ :: _, [], _, h => h.elim
  | n :: ns, d :: ds, ps, h => by
    obtain ⟨g, t, cs, fuel, p, q, h1, h2, h3, h4, hs, e⟩ := h
    simp [trodVars_len hs]
end Go.Proofs.YtolkgnnjocmkdaaGreatDoor
/-
  Head lines that came in, opened.
-/
namespace Go.Proofs.YtolkgnnjocmkdaaGreatDoor
open Go.ChangeShapes Go.WideShapes Go.ChangeAt Go.RowKit Go.Deep
theorem headerCells : Tryz.prog.cellsOf 167 = 2 := by kernel_rfl
theorem hOneS : Tryz.prog.cellsOf 9 = 1 := by kernel_rfl
theorem hdr_of {H : Type} {enc : TypeId × Value → H} {w : World} {base : Nat} {spare : Nat → Bool} {held : Bool} {fuel : Nat} {cs : List Value} {x : DataW H × List MemPlace}
    (h : DataW.trod enc Tryz.prog w base spare held fuel 167 cs = some x) : ∃ r : Hdr, cs = [.string r.name, .string r.value] ∧ r.name.size ≤ maxLen ∧ r.value.size ≤ maxLen := by
  obtain ⟨y0, y1, n, _, hl, h0, h2⟩ := trod_struct2 Tryz.underlying167 h
  rw [headerCells] at hl
  simp only [hOneS] at h0 h2
  obtain ⟨s0, e0, _, z0⟩ := DataW.trod_string Tryz.underlying9 h0
  obtain ⟨s2, e2, _, z2⟩ := DataW.trod_string Tryz.underlying9 h2
  match cs, hl with
  | [c0, c2], _ =>
    simp only [List.drop_zero, List.take_succ_cons, List.take_zero, List.drop_succ_cons, List.cons.injEq, and_true] at e0 e2
    exact ⟨⟨s0, s2⟩, by rw [e0, e2], z0, z2⟩
theorem open_headers {H : Type} {enc : TypeId × Value → H} {w : World} {base : Nat} {spare : Nat → Bool} {held : Bool} {fuel : Nat} {a : Option Addr} {len cap : Nat} {x : DataW H × List MemPlace}
    (h : DataW.trod enc Tryz.prog w base spare held fuel 22 [.slice a len cap] = some x) :
    ∃ l : List Hdr, l.length = len ∧ len ≤ maxLen ∧ SmallHdrs l ∧ (l = [] ∨ ∃ b off, a = some ⟨b, off, none⟩ ∧ HeadsAt w b off l) := by
  rcases open_slice Tryz.underlying22 h with ⟨hcs, _⟩ | ⟨A, len', cap', m, n, D, Pl, hcs, _, hl, hm, hmm, _, hel⟩
  · simp only [List.cons.injEq, Value.slice.injEq, and_true] at hcs
    obtain ⟨_, rfl, _⟩ := hcs
    exact ⟨[], rfl, by unfold maxLen; omega, fun i r hr => by simp at hr, .inl rfl⟩
  · simp only [List.cons.injEq, Value.slice.injEq, and_true] at hcs
    obtain ⟨rfl, rfl, rfl⟩ := hcs
    have hlm : len ≤ m := by rw [hmm]; split <;> omega
    have hrec : ∀ i, i < len → ∃ r : Hdr, w.cells? base (A.add (i * 2)) 2 = some [.string r.name, .string r.value] ∧ r.name.size ≤ maxLen ∧ r.value.size ≤ maxLen := by
      intro i hi
      obtain ⟨cs', hc, ht⟩ := hel i (by omega)
      rw [headerCells] at hc
      obtain ⟨r, rfl, z⟩ := hdr_of ht
      exact ⟨r, hc, z⟩
    obtain ⟨f, hf⟩ : ∃ f : Nat → Hdr, ∀ i, i < len → w.cells? base (A.add (i * 2)) 2 = some [.string (f i).name, .string (f i).value] ∧ (f i).name.size ≤ maxLen ∧ (f i).value.size ≤ maxLen := by
      classical
      refine ⟨fun i => if hi : i < len then (hrec i hi).choose else ⟨.empty, .empty⟩, fun i hi => ?_⟩
      simp only [dif_pos hi]
      exact (hrec i hi).choose_spec
    refine ⟨(List.range len).map f, by simp, by omega, ?_, ?_⟩
    · intro i r hr
      rw [List.getElem?_map] at hr
      obtain ⟨j, hj, rfl⟩ := Option.map_eq_some_iff.1 hr
      obtain ⟨hlt, rfl⟩ := List.getElem?_eq_some_iff.1 hj
      simp at hlt
      simpa using (hf i hlt).2
    · by_cases h0 : len = 0
      · subst h0; exact .inl rfl
      · obtain ⟨b, off, spot⟩ := A
        have cells : ∀ i, i < len → ∀ j, j < 2 → w.cell? ((⟨b, off, spot⟩ : Addr).add (i * 2 + j)) = ([.string (f i).name, .string (f i).value] : List Value)[j]? := by
          intro i hi j hj
          have c := (World.cells?_some (hf i hi).1).2.2 j hj
          rw [add_add] at c
          exact c
        have hs : spot = none := by
          have c := cells 0 (by omega) 0 (by omega)
          simp only [Nat.zero_mul, Nat.add_zero, List.getElem?_cons_zero] at c
          simpa [Addr.add] using World.cell?_spot c
        subst hs
        have hadd : ∀ i, (⟨b, off, none⟩ : Addr).add i = ⟨b, off + i, none⟩ := fun i => by unfold Addr.add; split <;> simp_all
        refine .inr ⟨b, off, rfl, fun i r hr => ?_⟩
        rw [List.getElem?_map] at hr
        obtain ⟨j, hj, rfl⟩ := Option.map_eq_some_iff.1 hr
        obtain ⟨hlt, rfl⟩ := List.getElem?_eq_some_iff.1 hj
        simp only [List.length_range] at hlt
        simp only [List.getElem_range]
        have q0 := cells i hlt 0 (by omega)
        have q1 := cells i hlt 1 (by omega)
        rw [hadd] at q0 q1
        exact ⟨by simpa using q0, by simpa [Nat.add_assoc] using q1⟩
end Go.Proofs.YtolkgnnjocmkdaaGreatDoor
/-
  A request and a response that came in by value, opened.
-/
namespace Go.Proofs.YtolkgnnjocmkdaaGreatDoor
open Go.ChangeShapes Go.WideShapes Go.ChangeAt Go.RowKit Go.Deep
theorem requestCells : Tryz.prog.cellsOf 24 = 4 := by kernel_rfl
theorem headsOne : Tryz.prog.cellsOf 22 = 1 := by kernel_rfl
theorem slice_cs {H : Type} {enc : TypeId × Value → H} {w : World} {base : Nat} {spare : Nat → Bool} {held : Bool} {fuel : Nat} {cs : List Value} {t e : TypeId} {x : DataW H × List MemPlace}
    (hu : Tryz.prog.underlying t = some (.slice e)) (h : DataW.trod enc Tryz.prog w base spare held fuel t cs = some x) : ∃ a len cap, cs = [.slice a len cap] := by
  rcases open_slice hu h with ⟨hcs, _⟩ | ⟨A, len', cap', m, n, D, Pl, hcs, _⟩
  · exact ⟨_, _, _, hcs⟩
  · exact ⟨_, _, _, hcs⟩
set_option maxRecDepth 100000 in
theorem open_request {H : Type} {enc : TypeId × Value → H} {w : World} {r : Reach} {b0 base : Nat} {spare : Nat → Bool} {held : Bool} {v : Value} {d : DataW H} {p : List MemPlace}
    (hv : Value.okWide Tryz.prog w r b0 24 v) (h : DataW.Trod enc Tryz.prog w base spare held 24 v d p) :
    ∃ (m h p : ByteArray) (a : Option Addr) (cap : Nat) (l : List Hdr), v = .agg #[.string m, .string h, .string p, .slice a l.length cap] ∧ m.size ≤ maxLen ∧ h.size ≤ maxLen ∧ p.size ≤ maxLen ∧ l.length ≤ maxLen ∧ SmallHdrs l ∧ (l = [] ∨ ∃ b off, a = some ⟨b, off, none⟩ ∧ HeadsAt w b off l) := by
  obtain ⟨cs, rfl, hsz⟩ := okWide_struct Tryz.underlying24 hv
  obtain ⟨fuel, hf0⟩ := h
  obtain ⟨xs, n, _, _, hl, hlen, hf⟩ := DataW.trod_struct Tryz.underlying24 hf0
  match xs, hlen with
  | [y0, y1, y2, y3], _ =>
    have h0 : DataW.trod enc Tryz.prog w base spare held n 9 (((Value.agg cs).cells.toList.drop 0).take (Tryz.prog.cellsOf 9)) = some y0 := hf 0 _ rfl
    have h1 : DataW.trod enc Tryz.prog w base spare held n 9 (((Value.agg cs).cells.toList.drop 1).take (Tryz.prog.cellsOf 9)) = some y1 := hf 1 _ rfl
    have h2 : DataW.trod enc Tryz.prog w base spare held n 9 (((Value.agg cs).cells.toList.drop 2).take (Tryz.prog.cellsOf 9)) = some y2 := hf 2 _ rfl
    have h3 : DataW.trod enc Tryz.prog w base spare held n 22 (((Value.agg cs).cells.toList.drop 3).take (Tryz.prog.cellsOf 22)) = some y3 := hf 3 _ rfl
    rw [hOneS] at h0 h1 h2
    rw [headsOne] at h3
    obtain ⟨s0, e0, _, z0⟩ := DataW.trod_string Tryz.underlying9 h0
    obtain ⟨s1, e1, _, z1⟩ := DataW.trod_string Tryz.underlying9 h1
    obtain ⟨s2, e2, _, z2⟩ := DataW.trod_string Tryz.underlying9 h2
    obtain ⟨a, len, cap, e3⟩ := slice_cs Tryz.underlying22 h3
    rw [e3] at h3
    obtain ⟨l, rfl, m3, s3, o3⟩ := open_headers h3
    refine ⟨s0, s1, s2, a, cap, l, ?_, z0, z1, z2, m3, s3, o3⟩
    have e : cs.toList = [.string s0, .string s1, .string s2, .slice a l.length cap] := by
      simp only [Value.cells] at e0 e1 e2 e3 hl
      rw [requestCells] at hl
      match hc : cs.toList, hl with
      | [c0, c1, c2, c3], _ =>
        rw [hc] at e0 e1 e2 e3
        simp only [List.drop_zero, List.take_succ_cons, List.take_zero, List.drop_succ_cons, List.cons.injEq, and_true] at e0 e1 e2 e3
        rw [e0, e1, e2, e3]
    congr 1
    exact Array.toList_inj.1 e
end Go.Proofs.YtolkgnnjocmkdaaGreatDoor
/-
  A response, a row of bytes, a list of texts that came in, opened.
-/
namespace Go.Proofs.YtolkgnnjocmkdaaGreatDoor
open Go.ChangeShapes Go.WideShapes Go.ChangeAt Go.RowKit Go.Deep
theorem bytesOne : Tryz.prog.cellsOf 5 = 1 := by kernel_rfl
theorem open_bytes {H : Type} {enc : TypeId × Value → H} {w : World} {base : Nat} {spare : Nat → Bool} {held : Bool} {fuel : Nat} {a : Option Addr} {len cap : Nat} {x : DataW H × List MemPlace}
    (h : DataW.trod enc Tryz.prog w base spare held fuel 25 [.slice a len cap] = some x) : ∃ l : List UInt8, l.length = len ∧ len ≤ maxLen ∧ BIn w a l := by
  rcases open_ints Tryz.underlying25 Tryz.underlying5 bytesOne h with ⟨hcs, _⟩ | ⟨A, l', c', zs, hcs, _, hl, hm, hz, _, hcell, hwz⟩
  · simp only [List.cons.injEq, Value.slice.injEq, and_true] at hcs
    obtain ⟨_, rfl, _⟩ := hcs
    exact ⟨[], rfl, by unfold maxLen; omega, .inl rfl⟩
  · simp only [List.cons.injEq, Value.slice.injEq, and_true] at hcs
    obtain ⟨rfl, rfl, rfl⟩ := hcs
    have hlz : len ≤ zs.length := by rw [hz]; split <;> omega
    refine ⟨(zs.take len).map fun z => UInt8.ofNat z.toNat, by simp; omega, by omega, ?_⟩
    by_cases h0 : len = 0
    · subst h0; exact .inl rfl
    · obtain ⟨b, off, spot⟩ := A
      have hc := hcell 0 (by omega)
      have hspot : spot = none := by simpa [Addr.add] using World.cell?_spot hc
      subst hspot
      have hadd : ∀ i, (⟨b, off, none⟩ : Addr).add i = ⟨b, off + i, none⟩ := fun i => by unfold Addr.add; split <;> simp_all
      refine .inr ⟨b, off, rfl, fun i c hr => ?_⟩
      rw [List.getElem?_map] at hr
      obtain ⟨z, hz1, rfl⟩ := Option.map_eq_some_iff.1 hr
      have hi : i < len := by have := (List.getElem?_eq_some_iff.1 hz1).1; simp at this; omega
      rw [List.getElem?_take_of_lt hi] at hz1
      have h1 := hcell i (by omega)
      rw [hadd, List.getD_eq_getElem?_getD, hz1] at h1
      rw [h1]
      have hw := hwz z (List.mem_of_getElem? hz1)
      simp only [Lit.wf, Bool.and_eq_true, decide_eq_true_eq] at hw
      have w1 : 0 ≤ z := hw.1
      have w2 : z ≤ 255 := hw.2
      have e : ((UInt8.ofNat z.toNat).toNat : Int) = z := by
        rw [UInt8.toNat_ofNat']
        omega
      rw [e]; rfl
theorem responseCells : Tryz.prog.cellsOf 52 = 3 := by kernel_rfl
theorem byteSOne : Tryz.prog.cellsOf 25 = 1 := by kernel_rfl
theorem intOne : Tryz.prog.cellsOf 2 = 1 := by kernel_rfl
set_option maxRecDepth 100000 in
theorem open_response {H : Type} {enc : TypeId × Value → H} {w : World} {r : Reach} {b0 base : Nat} {spare : Nat → Bool} {held : Bool} {v : Value} {d : DataW H} {p : List MemPlace}
    (hv : Value.okWide Tryz.prog w r b0 52 v) (h : DataW.Trod enc Tryz.prog w base spare held 52 v d p) :
    ∃ (z : Int) (a : Option Addr) (cap : Nat) (l : List Hdr) (b : Option Addr) (bc : Nat) (bl : List UInt8), v = .agg #[.int .i64 z, .slice a l.length cap, .slice b bl.length bc] ∧ l.length ≤ maxLen ∧ SmallHdrs l ∧ (l = [] ∨ ∃ b off, a = some ⟨b, off, none⟩ ∧ HeadsAt w b off l) ∧ bl.length ≤ maxLen ∧ BIn w b bl := by
  obtain ⟨cs, rfl, hsz⟩ := okWide_struct Tryz.underlying52 hv
  obtain ⟨fuel, hf0⟩ := h
  obtain ⟨xs, n, _, _, hl, hlen, hf⟩ := DataW.trod_struct Tryz.underlying52 hf0
  match xs, hlen with
  | [y0, y1, y2], _ =>
    have h0 : DataW.trod enc Tryz.prog w base spare held n 2 (((Value.agg cs).cells.toList.drop 0).take (Tryz.prog.cellsOf 2)) = some y0 := hf 0 _ rfl
    have h1 : DataW.trod enc Tryz.prog w base spare held n 22 (((Value.agg cs).cells.toList.drop 1).take (Tryz.prog.cellsOf 22)) = some y1 := hf 1 _ rfl
    have h2 : DataW.trod enc Tryz.prog w base spare held n 25 (((Value.agg cs).cells.toList.drop 2).take (Tryz.prog.cellsOf 25)) = some y2 := hf 2 _ rfl
    rw [intOne] at h0
    rw [headsOne] at h1
    rw [byteSOne] at h2
    obtain ⟨s0, e0, _⟩ := DataW.trod_int Tryz.underlying2 h0
    obtain ⟨a, len, cap, e1⟩ := slice_cs Tryz.underlying22 h1
    rw [e1] at h1
    obtain ⟨l, rfl, m3, s3, o3⟩ := open_headers h1
    obtain ⟨b, bn, bc, e2⟩ := slice_cs Tryz.underlying25 h2
    rw [e2] at h2
    obtain ⟨bl, rfl, m4, o4⟩ := open_bytes h2
    refine ⟨s0, a, cap, l, b, bc, bl, ?_, m3, s3, o3, m4, o4⟩
    have e : cs.toList = [.int .i64 s0, .slice a l.length cap, .slice b bl.length bc] := by
      simp only [Value.cells] at e0 e1 e2 hl
      rw [responseCells] at hl
      match hc : cs.toList, hl with
      | [c0, c1, c2], _ =>
        rw [hc] at e0 e1 e2
        simp only [List.drop_zero, List.take_succ_cons, List.take_zero, List.drop_succ_cons, List.cons.injEq, and_true] at e0 e1 e2
        rw [e0, e1, e2]
    congr 1
    exact Array.toList_inj.1 e
end Go.Proofs.YtolkgnnjocmkdaaGreatDoor
/-
  A list of texts that came in, opened.
-/
namespace Go.Proofs.YtolkgnnjocmkdaaGreatDoor
open Go.ChangeShapes Go.WideShapes Go.ChangeAt Go.RowKit Go.Deep
theorem textOne : Tryz.prog.cellsOf 9 = 1 := by kernel_rfl
theorem open_texts {H : Type} {enc : TypeId × Value → H} {w : World} {base : Nat} {spare : Nat → Bool} {held : Bool} {fuel : Nat} {a : Option Addr} {len cap : Nat} {x : DataW H × List MemPlace}
    (h : DataW.trod enc Tryz.prog w base spare held fuel 28 [.slice a len cap] = some x) : ∃ l : List ByteArray, l.length = len ∧ len ≤ maxLen ∧ (∀ x ∈ l, x.size ≤ maxLen) ∧ TIn w a l := by
  rcases open_slice Tryz.underlying28 h with ⟨hcs, _⟩ | ⟨A, len', cap', m, n, D, Pl, hcs, _, hl, hm, hmm, _, hel⟩
  · simp only [List.cons.injEq, Value.slice.injEq, and_true] at hcs
    obtain ⟨_, rfl, _⟩ := hcs
    exact ⟨[], rfl, by unfold maxLen; omega, (fun x hx => by cases hx), .inl rfl⟩
  · simp only [List.cons.injEq, Value.slice.injEq, and_true] at hcs
    obtain ⟨rfl, rfl, rfl⟩ := hcs
    have hlm : len ≤ m := by rw [hmm]; split <;> omega
    have hrec : ∀ i, i < len → ∃ r : ByteArray, w.cells? base (A.add (i * 1)) 1 = some [.string r] ∧ r.size ≤ maxLen := by
      intro i hi
      obtain ⟨cs', hc, ht⟩ := hel i (by omega)
      rw [textOne] at hc
      obtain ⟨r, e, _, z⟩ := DataW.trod_string Tryz.underlying9 ht
      exact ⟨r, by rw [hc, e], z⟩
    obtain ⟨f, hf⟩ : ∃ f : Nat → ByteArray, ∀ i, i < len → w.cells? base (A.add (i * 1)) 1 = some [.string (f i)] ∧ (f i).size ≤ maxLen := by
      classical
      refine ⟨fun i => if hi : i < len then (hrec i hi).choose else .empty, fun i hi => ?_⟩
      simp only [dif_pos hi]
      exact (hrec i hi).choose_spec
    refine ⟨(List.range len).map f, by simp, by omega, ?_, ?_⟩
    · intro x hx
      obtain ⟨i, hi, rfl⟩ := List.mem_map.1 hx
      exact (hf i (by simpa using hi)).2
    · by_cases h0 : len = 0
      · subst h0; exact .inl rfl
      · obtain ⟨b, off, spot⟩ := A
        have cells : ∀ i, i < len → w.cell? ((⟨b, off, spot⟩ : Addr).add i) = some (.string (f i)) := by
          intro i hi
          have c := (World.cells?_some (hf i hi).1).2.2 0 (by omega)
          rw [add_add] at c
          simpa using c
        have hs : spot = none := by
          have c := cells 0 (by omega)
          simpa [Addr.add] using World.cell?_spot c
        subst hs
        have hadd : ∀ i, (⟨b, off, none⟩ : Addr).add i = ⟨b, off + i, none⟩ := fun i => by unfold Addr.add; split <;> simp_all
        refine .inr ⟨b, off, rfl, fun i r hr => ?_⟩
        rw [List.getElem?_map] at hr
        obtain ⟨j, hj, rfl⟩ := Option.map_eq_some_iff.1 hr
        obtain ⟨hlt, rfl⟩ := List.getElem?_eq_some_iff.1 hj
        simp only [List.length_range] at hlt
        simp only [List.getElem_range]
        have q0 := cells i hlt
        rw [hadd] at q0
        exact q0
end Go.Proofs.YtolkgnnjocmkdaaGreatDoor
/-
  What is kept with an answer, as it came in by value, opened.
-/
namespace Go.Proofs.YtolkgnnjocmkdaaGreatDoor
open Go.ChangeShapes Go.WideShapes Go.ChangeAt Go.RowKit
theorem metaCells : Tryz.prog.cellsOf 27 = 7 := by kernel_rfl
theorem oneIm : Tryz.prog.cellsOf 2 = 1 := by kernel_rfl
theorem oneBm : Tryz.prog.cellsOf 4 = 1 := by kernel_rfl
set_option maxRecDepth 100000 in
theorem open_meta {H : Type} {enc : TypeId × Value → H} {w : World} {r : Reach} {b0 base : Nat} {spare : Nat → Bool} {held : Bool} {v : Value} {d : DataW H} {p : List MemPlace}
    (hv : Value.okWide Tryz.prog w r b0 27 v) (h : DataW.Trod enc Tryz.prog w base spare held 27 v d p) :
    ∃ (u : Int × Int × Int × Int × Int) (t : Bool × Bool), v = .agg #[.int .i64 u.1, .int .i64 u.2.1, .int .i64 u.2.2.1, .int .i64 u.2.2.2.1, .int .i64 u.2.2.2.2, .bool t.1, .bool t.2] := by
  obtain ⟨cs, rfl, hsz⟩ := okWide_struct Tryz.underlying27 hv
  obtain ⟨fuel, hf0⟩ := h
  obtain ⟨xs, n, _, _, hl, hlen, hf⟩ := DataW.trod_struct Tryz.underlying27 hf0
  match xs, hlen with
  | [y0, y1, y2, y3, y4, y5, y6], _ =>
    have h0 : DataW.trod enc Tryz.prog w base spare held n 2 (((Value.agg cs).cells.toList.drop 0).take (Tryz.prog.cellsOf 2)) = some y0 := hf 0 _ rfl
    have h1 : DataW.trod enc Tryz.prog w base spare held n 2 (((Value.agg cs).cells.toList.drop 1).take (Tryz.prog.cellsOf 2)) = some y1 := hf 1 _ rfl
    have h2 : DataW.trod enc Tryz.prog w base spare held n 2 (((Value.agg cs).cells.toList.drop 2).take (Tryz.prog.cellsOf 2)) = some y2 := hf 2 _ rfl
    have h3 : DataW.trod enc Tryz.prog w base spare held n 2 (((Value.agg cs).cells.toList.drop 3).take (Tryz.prog.cellsOf 2)) = some y3 := hf 3 _ rfl
    have h4 : DataW.trod enc Tryz.prog w base spare held n 2 (((Value.agg cs).cells.toList.drop 4).take (Tryz.prog.cellsOf 2)) = some y4 := hf 4 _ rfl
    have h5 : DataW.trod enc Tryz.prog w base spare held n 4 (((Value.agg cs).cells.toList.drop 5).take (Tryz.prog.cellsOf 4)) = some y5 := hf 5 _ rfl
    have h6 : DataW.trod enc Tryz.prog w base spare held n 4 (((Value.agg cs).cells.toList.drop 6).take (Tryz.prog.cellsOf 4)) = some y6 := hf 6 _ rfl
    rw [oneIm] at h0 h1 h2 h3 h4
    rw [oneBm] at h5 h6
    obtain ⟨s0, e0, _⟩ := DataW.trod_int Tryz.underlying2 h0
    obtain ⟨s1, e1, _⟩ := DataW.trod_int Tryz.underlying2 h1
    obtain ⟨s2, e2, _⟩ := DataW.trod_int Tryz.underlying2 h2
    obtain ⟨s3, e3, _⟩ := DataW.trod_int Tryz.underlying2 h3
    obtain ⟨s4, e4, _⟩ := DataW.trod_int Tryz.underlying2 h4
    obtain ⟨s5, e5, _⟩ := DataW.trod_bool Tryz.underlying4 h5
    obtain ⟨s6, e6, _⟩ := DataW.trod_bool Tryz.underlying4 h6
    refine ⟨(s0, s1, s2, s3, s4), (s5, s6), ?_⟩
    have e : cs.toList = [.int .i64 s0, .int .i64 s1, .int .i64 s2, .int .i64 s3, .int .i64 s4, .bool s5, .bool s6] := by
      simp only [Value.cells] at e0 e1 e2 e3 e4 e5 e6 hl
      rw [metaCells] at hl
      match hc : cs.toList, hl with
      | [c0, c1, c2, c3, c4, c5, c6], _ =>
        rw [hc] at e0 e1 e2 e3 e4 e5 e6
        simp only [List.drop_zero, List.take_succ_cons, List.take_zero, List.drop_succ_cons, List.cons.injEq, and_true] at e0 e1 e2 e3 e4 e5 e6
        rw [e0, e1, e2, e3, e4, e5, e6]
    congr 1
    exact Array.toList_inj.1 e
end Go.Proofs.YtolkgnnjocmkdaaGreatDoor
/-
  An entry that came in, and entries, opened.
-/
namespace Go.Proofs.YtolkgnnjocmkdaaGreatDoor
open Go.ChangeShapes Go.WideShapes Go.ChangeAt Go.RowKit Go.Deep
theorem entCells : Tryz.prog.cellsOf 30 = 13 := by kernel_rfl
theorem eOneS : Tryz.prog.cellsOf 9 = 1 := by kernel_rfl
theorem eOneI : Tryz.prog.cellsOf 2 = 1 := by kernel_rfl
theorem eOneB : Tryz.prog.cellsOf 4 = 1 := by kernel_rfl
theorem eOneH : Tryz.prog.cellsOf 22 = 1 := by kernel_rfl
theorem eOneU : Tryz.prog.cellsOf 25 = 1 := by kernel_rfl
theorem eOneT : Tryz.prog.cellsOf 28 = 1 := by kernel_rfl
theorem eMeta : Tryz.prog.cellsOf 27 = 7 := by kernel_rfl
theorem slice_cap {H : Type} {enc : TypeId × Value → H} {P : Program} {w : World} {base : Nat} {spare : Nat → Bool} {held : Bool} {fuel : Nat} {t e : TypeId} {a : Option Addr} {n c : Nat} {x : DataW H × List MemPlace} (ht : P.underlying t = some (.slice e))
    (h : DataW.trod enc P w base spare held fuel t [.slice a n c] = some x) : n ≤ c := by
  rcases open_slice ht h with ⟨hcs, _⟩ | ⟨A, len', cap', m, n', D, Pl, hcs, _, hl, _⟩
  · simp only [List.cons.injEq, Value.slice.injEq, and_true] at hcs
    omega
  · simp only [List.cons.injEq, Value.slice.injEq, and_true] at hcs
    omega
set_option maxRecDepth 100000 in
theorem meta_cs {H : Type} {enc : TypeId × Value → H} {w : World} {base : Nat} {spare : Nat → Bool} {held : Bool} {fuel : Nat} {cs : List Value} {x : DataW H × List MemPlace}
    (h : DataW.trod enc Tryz.prog w base spare held fuel 27 cs = some x) : ∃ (t g l s e : Int) (b1 b2 : Bool), cs = [.int .i64 t, .int .i64 g, .int .i64 l, .int .i64 s, .int .i64 e, .bool b1, .bool b2] := by
  obtain ⟨xs, n, _, _, hl, hlen, hf⟩ := DataW.trod_struct Tryz.underlying27 h
  match xs, hlen with
  | [y0, y1, y2, y3, y4, y5, y6], _ =>
    have h0 : DataW.trod enc Tryz.prog w base spare held n 2 ((cs.drop 0).take (Tryz.prog.cellsOf 2)) = some y0 := hf 0 _ rfl
    have h1 : DataW.trod enc Tryz.prog w base spare held n 2 ((cs.drop 1).take (Tryz.prog.cellsOf 2)) = some y1 := hf 1 _ rfl
    have h2 : DataW.trod enc Tryz.prog w base spare held n 2 ((cs.drop 2).take (Tryz.prog.cellsOf 2)) = some y2 := hf 2 _ rfl
    have h3 : DataW.trod enc Tryz.prog w base spare held n 2 ((cs.drop 3).take (Tryz.prog.cellsOf 2)) = some y3 := hf 3 _ rfl
    have h4 : DataW.trod enc Tryz.prog w base spare held n 2 ((cs.drop 4).take (Tryz.prog.cellsOf 2)) = some y4 := hf 4 _ rfl
    have h5 : DataW.trod enc Tryz.prog w base spare held n 4 ((cs.drop 5).take (Tryz.prog.cellsOf 4)) = some y5 := hf 5 _ rfl
    have h6 : DataW.trod enc Tryz.prog w base spare held n 4 ((cs.drop 6).take (Tryz.prog.cellsOf 4)) = some y6 := hf 6 _ rfl
    rw [eOneI] at h0 h1 h2 h3 h4
    rw [eOneB] at h5 h6
    obtain ⟨s0, e0, _⟩ := DataW.trod_int Tryz.underlying2 h0
    obtain ⟨s1, e1, _⟩ := DataW.trod_int Tryz.underlying2 h1
    obtain ⟨s2, e2, _⟩ := DataW.trod_int Tryz.underlying2 h2
    obtain ⟨s3, e3, _⟩ := DataW.trod_int Tryz.underlying2 h3
    obtain ⟨s4, e4, _⟩ := DataW.trod_int Tryz.underlying2 h4
    obtain ⟨s5, e5, _⟩ := DataW.trod_bool Tryz.underlying4 h5
    obtain ⟨s6, e6, _⟩ := DataW.trod_bool Tryz.underlying4 h6
    refine ⟨s0, s1, s2, s3, s4, s5, s6, ?_⟩
    rw [eMeta] at hl
    match cs, hl with
    | [c0, c1, c2, c3, c4, c5, c6], _ =>
      simp only [List.drop_zero, List.take_succ_cons, List.take_zero, List.drop_succ_cons, List.cons.injEq, and_true] at e0 e1 e2 e3 e4 e5 e6
      rw [e0, e1, e2, e3, e4, e5, e6]
set_option maxRecDepth 100000 in
theorem ent_of {H : Type} {enc : TypeId × Value → H} {w : World} {base : Nat} {spare : Nat → Bool} {held : Bool} {fuel : Nat} {cs : List Value} {x : DataW H × List MemPlace}
    (h : DataW.trod enc Tryz.prog w base spare held fuel 30 cs = some x) : ∃ (q : Ent) (r : EntR), cs = entW q r ∧ EntIn w q r ∧ EntSm q := by
  obtain ⟨xs, n, _, _, hl, hlen, hf⟩ := DataW.trod_struct Tryz.underlying30 h
  match xs, hlen with
  | [y0, y1, y2, y3, y4, y5, y6], _ =>
    have h0 : DataW.trod enc Tryz.prog w base spare held n 9 ((cs.drop 0).take (Tryz.prog.cellsOf 9)) = some y0 := hf 0 _ rfl
    have h1 : DataW.trod enc Tryz.prog w base spare held n 2 ((cs.drop 1).take (Tryz.prog.cellsOf 2)) = some y1 := hf 1 _ rfl
    have h2 : DataW.trod enc Tryz.prog w base spare held n 22 ((cs.drop 2).take (Tryz.prog.cellsOf 22)) = some y2 := hf 2 _ rfl
    have h3 : DataW.trod enc Tryz.prog w base spare held n 25 ((cs.drop 3).take (Tryz.prog.cellsOf 25)) = some y3 := hf 3 _ rfl
    have h4 : DataW.trod enc Tryz.prog w base spare held n 27 ((cs.drop 4).take (Tryz.prog.cellsOf 27)) = some y4 := hf 4 _ rfl
    have h5 : DataW.trod enc Tryz.prog w base spare held n 28 ((cs.drop 11).take (Tryz.prog.cellsOf 28)) = some y5 := hf 5 _ rfl
    have h6 : DataW.trod enc Tryz.prog w base spare held n 2 ((cs.drop 12).take (Tryz.prog.cellsOf 2)) = some y6 := hf 6 _ rfl
    rw [eOneS] at h0
    rw [eOneI] at h1 h6
    rw [eOneH] at h2
    rw [eOneU] at h3
    rw [eMeta] at h4
    rw [eOneT] at h5
    obtain ⟨s0, e0, _, z0⟩ := DataW.trod_string Tryz.underlying9 h0
    obtain ⟨s1, e1, _⟩ := DataW.trod_int Tryz.underlying2 h1
    obtain ⟨ha, hn, hc, e2⟩ := slice_cs Tryz.underlying22 h2
    rw [e2] at h2
    obtain ⟨l, rfl, m2, sm2, o2⟩ := open_headers h2
    obtain ⟨ba, bn, bc, e3⟩ := slice_cs Tryz.underlying25 h3
    rw [e3] at h3
    obtain ⟨bl, rfl, m3, o3⟩ := open_bytes h3
    obtain ⟨t, g, li, s, e, b1, b2, e4⟩ := meta_cs h4
    obtain ⟨ta, tn, tc, e5⟩ := slice_cs Tryz.underlying28 h5
    rw [e5] at h5
    obtain ⟨ts, rfl, m5, sm5, o5⟩ := open_texts h5
    obtain ⟨s6, e6, _⟩ := DataW.trod_int Tryz.underlying2 h6
    refine ⟨⟨s0, s1, l, bl, t, g, li, s, e, b1, b2, ts, s6⟩, ⟨ha, hc, ba, bc, ta, tc⟩, ?_, ⟨o2, o3, o5, slice_cap Tryz.underlying22 h2, slice_cap Tryz.underlying25 h3, slice_cap Tryz.underlying28 h5⟩, ⟨z0, m2, sm2, m3, m5, sm5⟩⟩
    rw [entCells] at hl
    match cs, hl with
    | [c0, c1, c2, c3, c4, c5, c6, c7, c8, c9, c10, c11, c12], _ =>
      simp only [List.drop_zero, List.take_succ_cons, List.take_zero, List.drop_succ_cons, List.cons.injEq, and_true] at e0 e1 e2 e3 e4 e5 e6
      obtain ⟨f4, f5, f6, f7, f8, f9, f10⟩ := e4
      rw [e0, e1, e2, e3, f4, f5, f6, f7, f8, f9, f10, e5, e6]
      rfl
set_option maxRecDepth 100000 in
theorem open_entry {H : Type} {enc : TypeId × Value → H} {w : World} {r : Reach} {b0 base : Nat} {spare : Nat → Bool} {held : Bool} {v : Value} {d : DataW H} {p : List MemPlace}
    (hv : Value.okWide Tryz.prog w r b0 30 v) (h : DataW.Trod enc Tryz.prog w base spare held 30 v d p) : ∃ (q : Ent) (r : EntR), v = entV q r ∧ EntIn w q r ∧ EntSm q := by
  obtain ⟨cs, rfl, hsz⟩ := okWide_struct Tryz.underlying30 hv
  obtain ⟨fuel, hf0⟩ := h
  obtain ⟨q, r, e, h1, h2⟩ := ent_of hf0
  refine ⟨q, r, ?_, h1, h2⟩
  simp only [Value.cells] at e
  show Value.agg cs = .agg _
  congr 1
  exact Array.toList_inj.1 e
end Go.Proofs.YtolkgnnjocmkdaaGreatDoor
