/-
  The law of items, out of contracts.
-/
import Derived.Test.YtibomkcbopkpkaaDoorDraw2List
import Derived.Test.YtibomkcbopkpkaaDoorItemsTextImpl
import Derived.Test.YtibomkcbopkpkaaDoorParseFns
import Derived.Test.YtibomkcbopkpkaaDoorItemsBack
import Derived.Test.YtibomkcbopkpkaaDoorFindImpl
import Derived.Test.YtibomkcbopkpkaaDoorSameFns
import Derived.Deep.CutRange
import Derived.Deep.RegionWith
namespace Go.Proofs.YtibomkcbopkpkaaDoor
open Go.ChangeShapes Go.WideShapes Go.ChangeAt Go.RowKit Go.Sort
namespace items
theorem sameR_refl (x : Rec) : sameR x x = true := by simp [sameR]
theorem sameRs_refl : ∀ l : List Rec, sameRs l l = true
  | [] => rfl
  | x :: l => by rw [sameRs, sameR_refl, sameRs_refl l]; rfl
theorem tfield_code (c : Int) (t : ByteArray) (w : World) : (Instr.field 26 (.agg #[.int .i64 c, .string t]) 0).run Tryd.prog w = .ok (.int .i64 c) w := by kernel_rfl
theorem pfield_code (c : Int) (a : Option Addr) (n k : Nat) (w : World) : (Instr.field 41 (.agg #[.int .i64 c, .slice a n k]) 0).run Tryd.prog w = .ok (.int .i64 c) w := by kernel_rfl
theorem pfield_items (c : Int) (a : Option Addr) (n k : Nat) (w : World) : (Instr.field 41 (.agg #[.int .i64 c, .slice a n k]) 1).run Tryd.prog w = .ok (.slice a n k) w := by kernel_rfl
theorem own_its {w : World} {base : Nat} {a : Option Addr} {n c : Nat} {L : List Rec} (h : OwnI w base (.slice a n c) L) : n = L.length ∧ ItsIn w a L := by
  obtain ⟨a', c', e, hi⟩ := h.at
  simp only [Value.slice.injEq] at e
  exact ⟨e.2.1, by rw [e.1]; exact hi⟩
structure TR (w : World) (b : Nat) (c : Int) (t : ByteArray) : Prop where
  c0 : w.cell? ⟨b, 0, none⟩ = some (.int .i64 c)
  c1 : w.cell? ⟨b, 1, none⟩ = some (.string t)
theorem TR.keep {w w' : World} {b : Nat} {c : Int} {t : ByteArray} (h : TR w b c t) (hb : Below w.heap.size w w') : TR w' b c t :=
  ⟨by rw [hb.cell (p := ⟨b, 0, none⟩) (block_lt_of_cell h.c0), h.c0], by rw [hb.cell (p := ⟨b, 1, none⟩) (block_lt_of_cell h.c1), h.c1]⟩
theorem tr_new (w : World) (c : Int) (s : ByteArray) (t : TypeId) : TR (w.alloc (.cells #[.int .i64 c, .string s] t)) w.heap.size c s := ⟨by simp, by simp⟩
structure PR (w : World) (b : Nat) (c : Int) (v : Value) : Prop where
  c0 : w.cell? ⟨b, 0, none⟩ = some (.int .i64 c)
  c1 : w.cell? ⟨b, 1, none⟩ = some v
theorem PR.keep {w w' : World} {b : Nat} {c : Int} {v : Value} (h : PR w b c v) (hb : Below w.heap.size w w') : PR w' b c v :=
  ⟨by rw [hb.cell (p := ⟨b, 0, none⟩) (block_lt_of_cell h.c0), h.c0], by rw [hb.cell (p := ⟨b, 1, none⟩) (block_lt_of_cell h.c1), h.c1]⟩
theorem pr_new (w : World) (c : Int) (a : Option Addr) (n k : Nat) (t : TypeId) : PR (w.alloc (.cells #[.int .i64 c, .slice a n k] t)) w.heap.size c (.slice a n k) := ⟨by simp, by simp⟩
theorem pr_new2 (w : World) (c x : Int) (t : TypeId) : PR (w.alloc (.cells #[.int .i64 c, .int .i64 x] t)) w.heap.size c (.int .i64 x) := ⟨by simp, by simp⟩
/-- What a call of ParseItems hands back. -/
def GotI (s : ByteArray) (e : Ending) (w : World) : Prop := ∃ a n k, e = .returned (.agg #[.int .i64 (parseC s), .slice a n k]) ∧ OwnI w 0 (.slice a n k) (parseL s)
theorem got_of {s : ByteArray} {base : Nat} {e : Ending} {w : World} (h : ParseOut s base e w) : GotI s e w := by
  obtain ⟨v, rfl, ho⟩ := h
  obtain ⟨a, c, rfl, _⟩ := ho.at
  exact ⟨a, _, c, rfl, ho.lower (Nat.zero_le _)⟩
theorem short_of {L : List Rec} (h : SmallR L) : ShortNames L := fun i r hr => by have := (h r (List.mem_of_getElem? hr)).1; omega
set_option maxRecDepth 100000 in
set_option maxHeartbeats 16000000 in
theorem fnItems_walk (w : World) (a : Option Addr) (len cap : Nat) (hc : CodeRow w w.heap.size a len) (hset : SetIs w) :
    Calls Tryd.prog 5 #[.slice a len cap] w fun e w' => e = .returned (.bool true) ∧ Below w.heap.size w w' := by
  have HC : Hid (∀ W, Below w.heap.size w W → CodeRow W W.heap.size a len) := fun W hb => (hc.below hb).mono hb.size
  have HSET : Hid (∀ W, Below w.heap.size w W → SetIs W) := fun W hb => hset.below hb
  clear hc hset
  by_cases hbig : (1048576 : Int) < len
  · go_enter Tryd.func5, Tryd.ntmps5
    go_wp2
    go_ret
    exact ⟨rfl, Below.refl _ _⟩
  have hl2 : len ≤ 1048576 := by omega
  go_enter Tryd.func5, Tryd.ntmps5
  go_wp2_with (go_at_call 7; go_in)
  refine (drawItemsText_any w a len cap (HC.out _ (Below.refl _ _)) hl2).mono ?_
  rintro e w1 ⟨⟨v1, L, rfl, ho1, hL, _⟩, hb1⟩
  obtain ⟨la, lc, rfl, hin1⟩ := ho1.at
  clear hin1
  generalize hn1 : L.length = ln at *
  have O1 : Hid (OwnI w1 0 (.slice la ln lc) L) := ho1.lower (Nat.zero_le _)
  have B1 : Hid (Below w.heap.size w w1) := hb1
  clear ho1 hb1
  have HTI : Hid (∀ W, Below w.heap.size w W → OwnI W 0 (.slice la ln lc) L → Calls Tryd.prog 28 #[.slice la ln lc] W fun e w' => e = .returned (.agg #[.int .i64 (textC L), .string (textT L)]) ∧ Below W.heap.size W w') := fun W hb ho => by
    have := implText_any W la lc L (HSET.out _ hb) (by omega) (own_its ho).2
    rw [hn1] at this
    exact this
  have HTS : Hid (∀ W, OwnI W 0 (.slice la ln lc) L → Calls Tryd.prog 33 #[.slice la ln lc] W fun e w' => e = .returned (.agg #[.int .i64 (textC L), .string (textT L)]) ∧ Below W.heap.size W w') := fun W ho => by
    have := specText_any W la lc L (by omega) (own_its ho).2
    rw [hn1] at this
    exact this
  go_wp2_with fail
  refine (HTI.out _ B1.out O1.out).mono ?_
  rintro e w2 ⟨rfl, hb2⟩
  have B2 : Hid (Below w.heap.size w w2) := B1.out.trans (hb2.mono B1.out.size)
  have O2 : Hid (OwnI w2 0 (.slice la ln lc) L) := O1.out.below hb2
  clear hb2 B1 O1 HTI
  clear w1
  obtain ⟨tc, htc⟩ : ∃ c, Hid (textC L = c) := ⟨_, rfl⟩
  obtain ⟨tt, htt⟩ : ∃ t, Hid (textT L = t) := ⟨_, rfl⟩
  rw [htc.out, htt.out] at HTS ⊢
  go_wp2_with fail
  refine (drawParseItems_any _ a len cap (HC.out _ (B2.out.alloc B2.out.size _)) hl2).mono ?_
  rintro e w3 ⟨⟨s, rfl⟩, hb3⟩
  have B3 : Hid (Below w.heap.size w w3) := (B2.out.alloc B2.out.size _).trans (hb3.mono (by have := B2.out.size; simp; omega))
  have O3 : Hid (OwnI w3 0 (.slice la ln lc) L) := (O2.out.below ((Below.refl _ _).alloc (Nat.le_refl _) _)).below hb3
  have T3 : Hid (TR w3 w2.heap.size tc tt) := (tr_new w2 tc tt 26).keep hb3
  clear hb3 B2 O2
  generalize w2.heap.size = Lt at *
  clear w2
  have HPI : Hid (∀ W x, Below w.heap.size w W → Calls Tryd.prog 30 #[.string x] W fun e w' => GotI x e w' ∧ Below W.heap.size W w') := fun W x hb => (implParse_fn x W (HSET.out _ hb)).mono fun _ _ ⟨h1, h2⟩ => ⟨got_of h1, h2⟩
  have HPS : Hid (∀ W x, Calls Tryd.prog 34 #[.string x] W fun e w' => GotI x e w' ∧ Below W.heap.size W w') := fun W x => (specParse_fn x W).mono fun _ _ ⟨h1, h2⟩ => ⟨got_of h1, h2⟩
  go_wp2_with fail
  refine (HPI.out _ s B3.out).mono ?_
  rintro e w4 ⟨⟨pa, pn, pk, rfl, ho4⟩, hb4⟩
  have B4 : Hid (Below w.heap.size w w4) := B3.out.trans (hb4.mono B3.out.size)
  have O4 : Hid (OwnI w4 0 (.slice la ln lc) L) := O3.out.below hb4
  have T4 : Hid (TR w4 Lt tc tt) := T3.out.keep hb4
  have P4 : Hid (OwnI w4 0 (.slice pa pn pk) (parseL s)) := ho4
  clear hb4 ho4 B3 O3 T3
  clear w3
  obtain ⟨pc, hpc⟩ : ∃ c, Hid (parseC s = c) := ⟨_, rfl⟩
  rw [hpc.out]
  have al4 : Below w4.heap.size w4 (w4.alloc (.cells #[.int .i64 pc, .slice pa pn pk] 41)) := (Below.refl _ _).alloc (Nat.le_refl _) _
  have HDF := drawFindItem_any (w4.alloc (.cells #[.int .i64 pc, .slice pa pn pk] 41)) a len cap (HC.out _ (B4.out.alloc B4.out.size _)) hl2
  go_wp2_with fail
  refine HDF.mono ?_
  rintro e w5 ⟨⟨fa, fc, M, name, rfl, ho5, hM, hMr, hnm⟩, hb5⟩
  have B5 : Hid (Below w.heap.size w w5) := (B4.out.alloc B4.out.size _).trans (hb5.mono (by have := B4.out.size; simp; omega))
  have O5 : Hid (OwnI w5 0 (.slice la ln lc) L) := (O4.out.below al4).below hb5
  have T5 : Hid (TR w5 Lt tc tt) := (T4.out.keep al4).keep hb5
  have P5 : Hid (OwnI w5 0 (.slice pa pn pk) (parseL s)) := (P4.out.below al4).below hb5
  have R5 : Hid (PR w5 w4.heap.size pc (.slice pa pn pk)) := (pr_new w4 pc pa pn pk 41).keep hb5
  have F5 : Hid (OwnI w5 0 (.slice fa M.length fc) M) := ho5.lower (Nat.zero_le _)
  have hMs : Hid (ShortNames M) := short_of hMr
  clear hb5 ho5 hMr al4 HDF B4 O4 T4 P4
  generalize w4.heap.size = Lp at *
  clear w4
  have HFI : Hid (∀ W, Below w.heap.size w W → OwnI W 0 (.slice fa M.length fc) M → Calls Tryd.prog 32 #[.slice fa M.length fc, .string name] W fun e w' => e = .returned (.agg #[.int .i64 (findC M name), .int .i64 (findV M name)]) ∧ Below W.heap.size W w') := fun W hb ho => implFind_any W fa fc M name (HSET.out _ hb) (own_its ho).2
  have HFS : Hid (∀ W, OwnI W 0 (.slice fa M.length fc) M → Calls Tryd.prog 35 #[.slice fa M.length fc, .string name] W fun e w' => e = .returned (.agg #[.int .i64 (findC M name), .int .i64 (findV M name)]) ∧ Below W.heap.size W w') := fun W ho => specFind_any W fa fc M name (by omega) (by omega) hMs.out (own_its ho).2
  generalize findC M name = fcd at *
  generalize findV M name = fvl at *
  generalize M.length = fn at *
  go_wp2_with fail
  refine (HFI.out _ B5.out F5.out).mono ?_
  rintro e w6 ⟨rfl, hb6⟩
  obtain ⟨W, hW⟩ : ∃ W, W = w6.alloc (.cells #[.int .i64 fcd, .int .i64 fvl] 32) := ⟨_, rfl⟩
  have K : Hid (Below w.heap.size w W ∧ OwnI W 0 (.slice la ln lc) L ∧ OwnI W 0 (.slice pa pn pk) (parseL s) ∧ OwnI W 0 (.slice fa fn fc) M ∧ TR W Lt tc tt ∧ PR W Lp pc (.slice pa pn pk) ∧ PR W w6.heap.size fcd (.int .i64 fvl)) := by
    have b6 := B5.out.trans (hb6.mono B5.out.size)
    have al : Below w6.heap.size w6 W := by subst hW; exact (Below.refl _ _).alloc (Nat.le_refl _) _
    refine ⟨b6.trans (al.mono b6.size), (O5.out.below hb6).below al, (P5.out.below hb6).below al, (F5.out.below hb6).below al, (T5.out.keep hb6).keep al, (R5.out.keep hb6).keep al, ?_⟩
    subst hW
    exact pr_new2 w6 fcd fvl _
  have HWW : Hid (W = w6.alloc (.cells #[.int .i64 fcd, .int .i64 fvl] 32)) := hW
  clear hW hb6 B5 O5 T5 P5 R5 F5 HFI HC
  go_wp2_with fail
  rw [← HWW.out]
  clear HWW
  generalize w6.heap.size = Lf at *
  clear w6
  go_cut [50] from 30 to 50 (fun s50 wx => s50 = .bool false ∧ Below W.heap.size W wx)
  case first =>
    have KP : Hid (∀ X, Below W.heap.size W X → TR X Lt tc tt ∧ PR X Lp pc (.slice pa pn pk) ∧ PR X Lf fcd (.int .i64 fvl) ∧ OwnI X 0 (.slice la ln lc) L ∧ OwnI X 0 (.slice fa fn fc) M) := fun X hb => ⟨K.out.2.2.2.2.1.keep hb, K.out.2.2.2.2.2.1.keep hb, K.out.2.2.2.2.2.2.keep hb, K.out.2.1.below hb, K.out.2.2.2.1.below hb⟩
    have B0 : Hid (Below W.heap.size W W.drew) := (Below.refl _ _).drew
    obtain ⟨⟨t0, t1⟩, ⟨p0, p1⟩, ⟨f0, f1⟩, _, _⟩ := KP.out W (Below.refl _ _)
    have hf1 := tfield_code
    have hf2 := pfield_code
    go_region_with (first
      | (go_at_call 33; refine (HTS.out _ (KP.out _ B0.out).2.2.2.1).mono ?_; rintro e wa ⟨rfl, hba⟩; have BA : Hid (Below W.heap.size W wa) := B0.out.trans hba; clear hba; obtain ⟨⟨ta0, ta1⟩, ⟨pa0, pa1⟩, ⟨fa0, fa1⟩, _, _⟩ := KP.out _ BA.out)
      | (go_at_call 34; refine (HPS.out _ s).mono ?_; rintro e wb ⟨⟨xa, xn, xk, rfl, _⟩, hbb⟩; have BB : Hid (Below W.heap.size W wb) := BA.out.trans (hbb.mono BA.out.size); clear hbb; rw [hpc.out]; obtain ⟨⟨tb0, tb1⟩, ⟨pb0, pb1⟩, ⟨fb0, fb1⟩, _, _⟩ := KP.out _ BB.out)
      | (go_at_call 35; refine (HFS.out _ (KP.out _ BB.out).2.2.2.2).mono ?_; rintro e wc ⟨rfl, hbc⟩; have BC : Hid (Below W.heap.size W wc) := BB.out.trans (hbc.mono BB.out.size); clear hbc; obtain ⟨⟨tc0, tc1⟩, ⟨pc0, pc1⟩, ⟨fc0, fc1⟩, _, _⟩ := KP.out _ BC.out))
    all_goals (go_wp2_with fail; go_meet; exact ⟨rfl, BC.out⟩)
  case rest =>
  obtain ⟨rfl, hbx⟩ := hcut
  have K2 : Hid (Below w.heap.size w wc ∧ OwnI wc 0 (.slice la ln lc) L ∧ OwnI wc 0 (.slice pa pn pk) (parseL s) ∧ TR wc Lt tc tt ∧ PR wc Lp pc (.slice pa pn pk)) := ⟨K.out.1.trans (hbx.mono K.out.1.size), K.out.2.1.below hbx, K.out.2.2.1.below hbx, K.out.2.2.2.2.1.keep hbx, K.out.2.2.2.2.2.1.keep hbx⟩
  clear hbx K HTS HFS HPS hMs
  clear W
  have HSI : Hid (∀ X (a : Option Addr) (n k : Nat) (b : Option Addr) (m j : Nat) (Q : List Rec), Q.length ≤ 1048576 → OwnI X 0 (.slice a n k) Q → OwnI X 0 (.slice b m j) Q → Calls Tryd.prog 36 #[.slice a n k, .slice b m j] X fun e w' => e = .returned (.bool true) ∧ Below X.heap.size X w') := fun X a n k b m j Q hQ h1 h2 => by
    obtain ⟨rfl, i1⟩ := own_its h1
    obtain ⟨rfl, i2⟩ := own_its h2
    have := implSame_any X a b k j Q Q hQ i1 i2
    rw [sameRs_refl] at this
    exact this
  have HSS : Hid (∀ X (a : Option Addr) (n k : Nat) (b : Option Addr) (m j : Nat) (Q : List Rec), Q.length ≤ 1048576 → OwnI X 0 (.slice a n k) Q → OwnI X 0 (.slice b m j) Q → Calls Tryd.prog 37 #[.slice a n k, .slice b m j] X fun e w' => e = .returned (.bool true) ∧ Below X.heap.size X w') := fun X a n k b m j Q hQ h1 h2 => by
    obtain ⟨rfl, i1⟩ := own_its h1
    obtain ⟨rfl, i2⟩ := own_its h2
    have := specSame_any X a b k j Q Q hQ i1 i2
    rw [sameRs_refl] at this
    exact this
  have p0 := K2.out.2.2.2.2.c0
  have p1 := K2.out.2.2.2.2.c1
  by_cases hp0 : pc = 0
  · subst hp0
    have hPl := parseL_len s
    have HTP : Hid (∀ X, Below w.heap.size w X → OwnI X 0 (.slice pa pn pk) (parseL s) → Calls Tryd.prog 28 #[.slice pa pn pk] X fun e w' => e = .returned (.agg #[.int .i64 (textC (parseL s)), .string (textT (parseL s))]) ∧ Below X.heap.size X w') := fun X hb ho => by
      obtain ⟨rfl, hi⟩ := own_its ho
      exact implText_any X pa pk (parseL s) (HSET.out _ hb) (by omega) hi
    have HTQ : Hid (∀ X, OwnI X 0 (.slice pa pn pk) (parseL s) → Calls Tryd.prog 33 #[.slice pa pn pk] X fun e w' => e = .returned (.agg #[.int .i64 (textC (parseL s)), .string (textT (parseL s))]) ∧ Below X.heap.size X w') := fun X ho => by
      obtain ⟨rfl, hi⟩ := own_its ho
      exact specText_any X pa pk (parseL s) (by omega) hi
    obtain ⟨P, hPe⟩ : ∃ P, Hid (parseL s = P) := ⟨_, rfl⟩
    rw [hPe.out] at HTP HTQ K2 hPl
    obtain ⟨ac, hac⟩ : ∃ c, Hid (textC P = c) := ⟨_, rfl⟩
    obtain ⟨at', hat⟩ : ∃ t, Hid (textT P = t) := ⟨_, rfl⟩
    rw [hac.out, hat.out] at HTP HTQ
    go_wp2_with fail
    refine (HTP.out _ K2.out.1 K2.out.2.2.1).mono ?_
    rintro e w7 ⟨rfl, hb7⟩
    obtain ⟨W, hW⟩ : ∃ W, W = w7.alloc (.cells #[.int .i64 ac, .string at'] 26) := ⟨_, rfl⟩
    have K7 : Hid (Below w.heap.size w W ∧ OwnI W 0 (.slice la ln lc) L ∧ OwnI W 0 (.slice pa pn pk) P ∧ TR W Lt tc tt ∧ PR W Lp 0 (.slice pa pn pk) ∧ TR W w7.heap.size ac at') := by
      have b7 := K2.out.1.trans (hb7.mono K2.out.1.size)
      have al : Below w7.heap.size w7 W := by subst hW; exact (Below.refl _ _).alloc (Nat.le_refl _) _
      refine ⟨b7.trans (al.mono b7.size), (K2.out.2.1.below hb7).below al, (K2.out.2.2.1.below hb7).below al, (K2.out.2.2.2.1.keep hb7).keep al, (K2.out.2.2.2.2.keep hb7).keep al, ?_⟩
      subst hW
      exact tr_new w7 ac at' _
    have HWW : Hid (W = w7.alloc (.cells #[.int .i64 ac, .string at'] 26)) := hW
    clear hW hb7 K2 p0 p1 HTP
    go_wp2_with fail
    rw [← HWW.out]
    clear HWW
    generalize w7.heap.size = La at *
    clear w7 wc
    go_cut [78] from 57 to 78 (fun s78 wx => s78 = .bool false ∧ Below W.heap.size W wx)
    case first =>
      have KP : Hid (∀ X, Below W.heap.size W X → TR X La ac at' ∧ PR X Lp 0 (.slice pa pn pk) ∧ OwnI X 0 (.slice pa pn pk) P ∧ Below w.heap.size w X) := fun X hb => ⟨K7.out.2.2.2.2.2.keep hb, K7.out.2.2.2.2.1.keep hb, K7.out.2.2.1.below hb, K7.out.1.trans (hb.mono K7.out.1.size)⟩
      have B0 : Hid (Below W.heap.size W W.drew) := (Below.refl _ _).drew
      obtain ⟨⟨t0, t1⟩, ⟨p0, p1⟩, _, _⟩ := KP.out W (Below.refl _ _)
      have hf1 := tfield_code
      have hf2 := pfield_items
      by_cases hac0 : ac = 0
      · subst hac0
        have HPT : Hid (parseC at' = 0 ∧ parseL at' = P) := by
          have := parse_text hac.out
          rw [hat.out] at this
          exact this
        go_region_with (first
          | (go_at_call 30; refine (HPI.out _ at' (KP.out _ B0.out).2.2.2).mono ?_; rintro e wa ⟨⟨xa, xn, xk, rfl, hox⟩, hba⟩; rw [HPT.out.1]; rw [HPT.out.2] at hox; have BA : Hid (Below W.heap.size W wa) := B0.out.trans hba; have OA : Hid (OwnI wa 0 (.slice xa xn xk) P) := hox; clear hba hox; obtain ⟨⟨ta0, ta1⟩, ⟨pa0, pa1⟩, _, _⟩ := KP.out _ BA.out)
          | (go_at_call 36; refine (HSI.out _ xa xn xk pa pn pk P (by omega) OA.out (KP.out _ BA.out).2.2.1).mono ?_; rintro e wb ⟨rfl, hbb⟩; have BB : Hid (Below W.heap.size W wb) := BA.out.trans (hbb.mono BA.out.size); clear hbb; obtain ⟨⟨tb0, tb1⟩, ⟨pb0, pb1⟩, _, _⟩ := KP.out _ BB.out)
          | (go_at_call 33; refine (HTQ.out _ (KP.out _ BB.out).2.2.1).mono ?_; rintro e wd ⟨rfl, hbd⟩; have BD : Hid (Below W.heap.size W wd) := BB.out.trans (hbd.mono BB.out.size); clear hbd; obtain ⟨⟨td0, td1⟩, ⟨pd0, pd1⟩, _, _⟩ := KP.out _ BD.out))
        all_goals (go_wp2_with fail; go_meet; exact ⟨rfl, BD.out⟩)
      · have hacn : (ac == 0) = false := by simpa using hac0
        refine wp_region_any (by kernel_rfl) ?_
        change wpAny _ _ _ _ _ _ _ (World.drew _)
        obtain ⟨Z, hZ⟩ : ∃ X, X = W.drew := ⟨_, rfl⟩
        rw [← hZ]
        have KZ : Hid (Below W.heap.size W Z) := by
          show Below _ _ _
          rw [hZ]
          exact (Below.refl _ _).drew
        clear hZ t0 t1 p0 p1
        obtain ⟨⟨t0, t1⟩, ⟨p0, p1⟩, _, _⟩ := KP.out Z KZ.out
        refine wpAny_take (i := 0) (v := .pointer (some ⟨La, 0, none⟩)) rfl (by kernel_rfl) (by kernel_rfl) (by kernel_rfl) (fun _ _ _ h => h) (Or.inl ⟨by kernel_rfl, ?_⟩) ?_
        · intro w; go_simp
        refine wpAny_ready (rs := [1]) (by kernel_rfl) (by simp) ?_
        refine AllReady.cons rfl (fun K hK => ?_) AllReady.nil
        go_simp
        refine hK _ _ ?_
        clear hK K
        refine wpAny_take (i := 2) (v := .bool false) rfl (by kernel_rfl) (by kernel_rfl) (by kernel_rfl) (fun _ _ _ h => h) (Or.inl ⟨by kernel_rfl, ?_⟩) ?_
        · intro w; go_simp
        refine wpAny_take (i := 3) (v := .bool false) rfl (by kernel_rfl) (by kernel_rfl) (by kernel_rfl) (fun _ _ _ h => h) (Or.inl ⟨by kernel_rfl, ?_⟩) ?_
        · intro w; go_simp
        refine wpAny_take (i := 4) (v := undef) rfl (by kernel_rfl) (by kernel_rfl) (by kernel_rfl) (fun _ _ _ h => h) (Or.inr ⟨by kernel_rfl, rfl⟩) ?_
        refine wpAny_take (i := 5) (v := undef) rfl (by kernel_rfl) (by kernel_rfl) (by kernel_rfl) (fun _ _ _ h => h) (Or.inr ⟨by kernel_rfl, rfl⟩) ?_
        refine wpAny_take (i := 6) (v := undef) rfl (by kernel_rfl) (by kernel_rfl) (by kernel_rfl) (fun _ _ _ h => h) (Or.inr ⟨by kernel_rfl, rfl⟩) ?_
        refine wpAny_take (i := 7) (v := undef) rfl (by kernel_rfl) (by kernel_rfl) (by kernel_rfl) (fun _ _ _ h => h) (Or.inr ⟨by kernel_rfl, rfl⟩) ?_
        refine wpAny_take (i := 8) (v := undef) rfl (by kernel_rfl) (by kernel_rfl) (by kernel_rfl) (fun _ _ _ h => h) (Or.inr ⟨by kernel_rfl, rfl⟩) ?_
        refine wpAny_take (i := 9) (v := undef) rfl (by kernel_rfl) (by kernel_rfl) (by kernel_rfl) (fun _ _ _ h => h) (Or.inr ⟨by kernel_rfl, rfl⟩) ?_
        refine wpAny_take (i := 10) (v := undef) rfl (by kernel_rfl) (by kernel_rfl) (by kernel_rfl) (fun _ _ _ h => h) (Or.inr ⟨by kernel_rfl, rfl⟩) ?_
        refine wpAny_take (i := 11) (v := undef) rfl (by kernel_rfl) (by kernel_rfl) (by kernel_rfl) (fun _ _ _ h => h) (Or.inr ⟨by kernel_rfl, rfl⟩) ?_
        refine wpAny_take (i := 12) (v := .bool false) rfl (by kernel_rfl) (by kernel_rfl) (by kernel_rfl) (fun _ _ _ h => h) (Or.inl ⟨by kernel_rfl, ?_⟩) ?_
        · intro w; go_simp
        refine wpAny_take (i := 13) (v := .bool false) rfl (by kernel_rfl) (by kernel_rfl) (by kernel_rfl) (fun _ _ _ h => h) (Or.inl ⟨by kernel_rfl, ?_⟩) ?_
        · intro w; go_simp
        refine wpAny_take (i := 14) (v := .pointer (some ⟨La, 0, none⟩)) rfl (by kernel_rfl) (by kernel_rfl) (by kernel_rfl) (fun _ _ _ h => h) (Or.inl ⟨by kernel_rfl, ?_⟩) ?_
        · intro w; go_simp
        refine wpAny_take (i := 16) (v := .pointer (some ⟨Lp, 1, none⟩)) rfl (by kernel_rfl) (by kernel_rfl) (by kernel_rfl) (fun _ _ _ h => h) (Or.inl ⟨by kernel_rfl, ?_⟩) ?_
        · intro w; go_simp
        refine wpAny_ready (rs := [15, 17]) (by kernel_rfl) (by simp) ?_
        refine AllReady.cons rfl (fun K hK => ?_) (AllReady.cons rfl (fun K hK => ?_) AllReady.nil)
        · go_simp
          refine hK _ _ ?_
          clear hK K
          refine wpAny_ready (rs := [17]) (by kernel_rfl) (by simp) ?_
          refine AllReady.cons rfl (fun K hK => ?_) AllReady.nil
          go_simp
          refine hK _ _ ?_
          clear hK K
          refine wpAny_ready (rs := [18]) (by kernel_rfl) (by simp) ?_
          refine AllReady.cons rfl (fun K hK => ?_) AllReady.nil
          go_simp
          go_wp2_with fail
          refine (HTQ.out _ (KP.out _ KZ.out).2.2.1).mono ?_
          rintro e wd ⟨rfl, hbd⟩
          have BD : Hid (Below W.heap.size W wd) := KZ.out.trans (hbd.mono KZ.out.size)
          clear hbd
          obtain ⟨⟨td0, td1⟩, ⟨pd0, pd1⟩, _, _⟩ := KP.out _ BD.out
          refine hK _ _ ?_
          clear hK K
          refine wpAny_take (i := 19) (v := .int .i64 ac) rfl (by kernel_rfl) (by kernel_rfl) (by kernel_rfl) (fun _ _ _ h => h) (Or.inl ⟨by kernel_rfl, ?_⟩) ?_
          · intro w; go_simp
          refine wpAny_take (i := 20) (v := .bool false) rfl (by kernel_rfl) (by kernel_rfl) (by kernel_rfl) (fun _ _ _ h => h) (Or.inl ⟨by kernel_rfl, ?_⟩) ?_
          · intro w; go_simp
          refine wpAny_take (i := 21) (v := .bool false) rfl (by kernel_rfl) (by kernel_rfl) (by kernel_rfl) (fun _ _ _ h => h) (Or.inl ⟨by kernel_rfl, ?_⟩) ?_
          · intro w; go_simp
          refine wpAny_done (by kernel_rfl) ?_ _
          go_wp2_with fail
          go_meet
          exact ⟨rfl, BD.out⟩
        · go_simp
          refine hK _ _ ?_
          clear hK K
          refine wpAny_ready (rs := [15, 18]) (by kernel_rfl) (by simp) ?_
          refine AllReady.cons rfl (fun K hK => ?_) (AllReady.cons rfl (fun K hK => ?_) AllReady.nil)
          · go_simp
            refine hK _ _ ?_
            clear hK K
            refine wpAny_ready (rs := [18]) (by kernel_rfl) (by simp) ?_
            refine AllReady.cons rfl (fun K hK => ?_) AllReady.nil
            go_simp
            go_wp2_with fail
            refine (HTQ.out _ (KP.out _ KZ.out).2.2.1).mono ?_
            rintro e wd ⟨rfl, hbd⟩
            have BD : Hid (Below W.heap.size W wd) := KZ.out.trans (hbd.mono KZ.out.size)
            clear hbd
            obtain ⟨⟨td0, td1⟩, ⟨pd0, pd1⟩, _, _⟩ := KP.out _ BD.out
            refine hK _ _ ?_
            clear hK K
            refine wpAny_take (i := 19) (v := .int .i64 ac) rfl (by kernel_rfl) (by kernel_rfl) (by kernel_rfl) (fun _ _ _ h => h) (Or.inl ⟨by kernel_rfl, ?_⟩) ?_
            · intro w; go_simp
            refine wpAny_take (i := 20) (v := .bool false) rfl (by kernel_rfl) (by kernel_rfl) (by kernel_rfl) (fun _ _ _ h => h) (Or.inl ⟨by kernel_rfl, ?_⟩) ?_
            · intro w; go_simp
            refine wpAny_take (i := 21) (v := .bool false) rfl (by kernel_rfl) (by kernel_rfl) (by kernel_rfl) (fun _ _ _ h => h) (Or.inl ⟨by kernel_rfl, ?_⟩) ?_
            · intro w; go_simp
            refine wpAny_done (by kernel_rfl) ?_ _
            go_wp2_with fail
            go_meet
            exact ⟨rfl, BD.out⟩
          · go_simp
            go_wp2_with fail
            refine (HTQ.out _ (KP.out _ KZ.out).2.2.1).mono ?_
            rintro e wd ⟨rfl, hbd⟩
            have BD : Hid (Below W.heap.size W wd) := KZ.out.trans (hbd.mono KZ.out.size)
            clear hbd
            obtain ⟨⟨td0, td1⟩, ⟨pd0, pd1⟩, _, _⟩ := KP.out _ BD.out
            refine hK _ _ ?_
            clear hK K
            refine wpAny_take (i := 19) (v := .int .i64 ac) rfl (by kernel_rfl) (by kernel_rfl) (by kernel_rfl) (fun _ _ _ h => h) (Or.inl ⟨by kernel_rfl, ?_⟩) ?_
            · intro w; go_simp
            refine wpAny_ready (rs := [15]) (by kernel_rfl) (by simp) ?_
            refine AllReady.cons rfl (fun K hK => ?_) AllReady.nil
            go_simp
            refine hK _ _ ?_
            clear hK K
            refine wpAny_take (i := 20) (v := .bool false) rfl (by kernel_rfl) (by kernel_rfl) (by kernel_rfl) (fun _ _ _ h => h) (Or.inl ⟨by kernel_rfl, ?_⟩) ?_
            · intro w; go_simp
            refine wpAny_take (i := 21) (v := .bool false) rfl (by kernel_rfl) (by kernel_rfl) (by kernel_rfl) (fun _ _ _ h => h) (Or.inl ⟨by kernel_rfl, ?_⟩) ?_
            · intro w; go_simp
            refine wpAny_done (by kernel_rfl) ?_ _
            go_wp2_with fail
            go_meet
            exact ⟨rfl, BD.out⟩
    case rest =>
    obtain ⟨rfl, hby⟩ := hcut
    have K8 : Hid (Below w.heap.size w wc ∧ OwnI wc 0 (.slice la ln lc) L ∧ TR wc Lt tc tt) := ⟨K7.out.1.trans (hby.mono K7.out.1.size), K7.out.2.1.below hby, K7.out.2.2.2.1.keep hby⟩
    clear hby K7
    clear W
    have t0 := K8.out.2.2.c0
    have t1 := K8.out.2.2.c1
    by_cases htc0 : tc = 0
    · subst htc0
      have HPT : Hid (parseC tt = 0 ∧ parseL tt = L) := by
        have := parse_text htc.out
        rw [htt.out] at this
        exact this
      go_wp2_with fail
      refine (HPI.out _ tt K8.out.1).mono ?_
      rintro e u1 ⟨⟨ba, bn, bk, rfl, hob⟩, hbu⟩
      rw [HPT.out.1]
      rw [HPT.out.2] at hob
      have al : Below u1.heap.size u1 (u1.alloc (.cells #[.int .i64 0, .slice ba bn bk] 41)) := (Below.refl _ _).alloc (Nat.le_refl _) _
      have U1 : Hid (Below w.heap.size w (u1.alloc (.cells #[.int .i64 0, .slice ba bn bk] 41)) ∧ OwnI (u1.alloc (.cells #[.int .i64 0, .slice ba bn bk] 41)) 0 (.slice la ln lc) L ∧ OwnI (u1.alloc (.cells #[.int .i64 0, .slice ba bn bk] 41)) 0 (.slice ba bn bk) L ∧ PR (u1.alloc (.cells #[.int .i64 0, .slice ba bn bk] 41)) u1.heap.size 0 (.slice ba bn bk)) := by
        have b := K8.out.1.trans (hbu.mono K8.out.1.size)
        exact ⟨b.trans (al.mono b.size), (K8.out.2.1.below hbu).below al, hob.below al, pr_new u1 0 ba bn bk _⟩
      have hq1 := HSI.out _ ba bn bk la ln lc L (by omega) U1.out.2.2.1 U1.out.2.1
      clear hob hbu al t0 t1
      go_wp2_with fail
      refine hq1.mono ?_
      rintro e u2 ⟨rfl, hb2⟩
      have U2 : Hid (Below w.heap.size w u2 ∧ OwnI u2 0 (.slice la ln lc) L ∧ OwnI u2 0 (.slice ba bn bk) L ∧ PR u2 u1.heap.size 0 (.slice ba bn bk)) := ⟨U1.out.1.trans (hb2.mono U1.out.1.size), U1.out.2.1.below hb2, U1.out.2.2.1.below hb2, U1.out.2.2.2.keep hb2⟩
      clear hb2 U1 hq1
      generalize u1.heap.size = Lb at *
      clear u1
      have b0 := U2.out.2.2.2.c0
      have b1 := U2.out.2.2.2.c1
      have hq2 := HSS.out u2 ba bn bk la ln lc L (by omega) U2.out.2.2.1 U2.out.2.1
      go_wp2_with fail
      refine hq2.mono ?_
      rintro e u3 ⟨rfl, hb3⟩
      have U3 : Hid (Below w.heap.size w u3) := U2.out.1.trans (hb3.mono U2.out.1.size)
      clear hb3 U2 hq2 b0 b1
      go_wp2_with fail
      go_ret
      exact ⟨rfl, U3.out⟩
    · have htn : (tc == 0) = false := by simpa using htc0
      go_wp2_with fail
      go_ret
      exact ⟨rfl, K8.out.1⟩
  · have hpn : (pc == 0) = false := by simpa using hp0
    have K8 : Hid (Below w.heap.size w wc ∧ OwnI wc 0 (.slice la ln lc) L ∧ TR wc Lt tc tt) := ⟨K2.out.1, K2.out.2.1, K2.out.2.2.2.1⟩
    clear K2
    have t0 := K8.out.2.2.c0
    have t1 := K8.out.2.2.c1
    by_cases htc0 : tc = 0
    · subst htc0
      have HPT : Hid (parseC tt = 0 ∧ parseL tt = L) := by
        have := parse_text htc.out
        rw [htt.out] at this
        exact this
      go_wp2_with fail
      refine (HPI.out _ tt K8.out.1).mono ?_
      rintro e u1 ⟨⟨ba, bn, bk, rfl, hob⟩, hbu⟩
      rw [HPT.out.1]
      rw [HPT.out.2] at hob
      have al : Below u1.heap.size u1 (u1.alloc (.cells #[.int .i64 0, .slice ba bn bk] 41)) := (Below.refl _ _).alloc (Nat.le_refl _) _
      have U1 : Hid (Below w.heap.size w (u1.alloc (.cells #[.int .i64 0, .slice ba bn bk] 41)) ∧ OwnI (u1.alloc (.cells #[.int .i64 0, .slice ba bn bk] 41)) 0 (.slice la ln lc) L ∧ OwnI (u1.alloc (.cells #[.int .i64 0, .slice ba bn bk] 41)) 0 (.slice ba bn bk) L ∧ PR (u1.alloc (.cells #[.int .i64 0, .slice ba bn bk] 41)) u1.heap.size 0 (.slice ba bn bk)) := by
        have b := K8.out.1.trans (hbu.mono K8.out.1.size)
        exact ⟨b.trans (al.mono b.size), (K8.out.2.1.below hbu).below al, hob.below al, pr_new u1 0 ba bn bk _⟩
      have hq1 := HSI.out _ ba bn bk la ln lc L (by omega) U1.out.2.2.1 U1.out.2.1
      clear hob hbu al t0 t1
      go_wp2_with fail
      refine hq1.mono ?_
      rintro e u2 ⟨rfl, hb2⟩
      have U2 : Hid (Below w.heap.size w u2 ∧ OwnI u2 0 (.slice la ln lc) L ∧ OwnI u2 0 (.slice ba bn bk) L ∧ PR u2 u1.heap.size 0 (.slice ba bn bk)) := ⟨U1.out.1.trans (hb2.mono U1.out.1.size), U1.out.2.1.below hb2, U1.out.2.2.1.below hb2, U1.out.2.2.2.keep hb2⟩
      clear hb2 U1 hq1
      generalize u1.heap.size = Lb at *
      clear u1
      have b0 := U2.out.2.2.2.c0
      have b1 := U2.out.2.2.2.c1
      have hq2 := HSS.out u2 ba bn bk la ln lc L (by omega) U2.out.2.2.1 U2.out.2.1
      go_wp2_with fail
      refine hq2.mono ?_
      rintro e u3 ⟨rfl, hb3⟩
      have U3 : Hid (Below w.heap.size w u3) := U2.out.1.trans (hb3.mono U2.out.1.size)
      clear hb3 U2 hq2 b0 b1
      go_wp2_with fail
      go_ret
      exact ⟨rfl, U3.out⟩
    · have htn : (tc == 0) = false := by simpa using htc0
      go_wp2_with fail
      go_ret
      exact ⟨rfl, K8.out.1⟩
end items
end Go.Proofs.YtibomkcbopkpkaaDoor
