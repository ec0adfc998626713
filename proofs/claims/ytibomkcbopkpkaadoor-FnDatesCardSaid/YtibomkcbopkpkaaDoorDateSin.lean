/-
  secondsIn: what it reads, or that it dies.
-/
import Derived.Test.YtibomkcbopkpkaaDoorDatePar
import Derived.Test.YtibomkcbopkpkaaDoorDateFmtI
import Derived.Test.YtibomkcbopkpkaaDoorLawFormatDate
import Derived.Test.YtibomkcbopkpkaaDoorDateSecs
import Derived.Test.YtibomkcbopkpkaaDoorDateDig
import Derived.Test.YtibomkcbopkpkaaDoorDateParS
import Derived.Deep.CutRange
namespace Go.Proofs.YtibomkcbopkpkaaDoor
open Go.ChangeShapes Go.WideShapes Go.ChangeAt Go.RowKit Go.Sort
open num
def DigOr (t : ByteArray) (e : Ending) : Prop := (okD t = true ∧ e = .returned (.int .i64 (numD t))) ∨ (okD t = false ∧ Dies e)
theorem digitsIn_any (t : ByteArray) (w : World) : Calls Tryd.prog 132 #[.string t] w fun e w' => DigOr t e ∧ Below w.heap.size w w' := by
  cases h : okD t
  · exact (digitsIn_no t w h).mono fun _ _ ⟨a, b⟩ => ⟨.inr ⟨h, a⟩, b⟩
  · exact (digitsIn_yes t w h).mono fun _ _ ⟨a, b⟩ => ⟨.inl ⟨h, a⟩, b⟩
theorem cand_num {s : ByteArray} {m : Int} (h : Cand s m) : okD (s.extract 12 16) = true ∧ okD (s.extract 5 7) = true ∧ okD (s.extract 17 19) = true ∧ okD (s.extract 20 22) = true ∧ okD (s.extract 23 25) = true := by
  have k := dateB_yes h.ok
  have hh : ∀ t, 0 ≤ numD t → okD t = true := by
    intro t ht
    cases e : okD t
    · rw [numD_no t e] at ht; omega
    · rfl
  exact ⟨hh _ (by have := k.day.y0; omega), hh _ (by have := k.day.d0; omega), hh _ k.h0, hh _ k.i0, hh _ k.s0⟩
/-- What secondsIn does with a text. -/
def SecOr (s : ByteArray) (e : Ending) : Prop := (s.size = 29 ∧ ∃ m, Cand s m ∧ e = .returned (.int .i64 (parS s m))) ∨ (Dies e ∧ (s.size = 29 → ∀ m, ¬ Cand s m))
/-- What lies behind the numbers' reading: the seconds' room. -/
def ReadAt (s : ByteArray) (w : World) (v : Value) (W : World) : Prop :=
  ∃ (B : Nat) (k : Int), v = .pointer (some ⟨B, 0, none⟩) ∧ (1 ≤ k ∧ k ≤ 12 ∧ moT k = s.extract 8 11) ∧ Below w.heap.size w W ∧
    Room2 W B (dfC (numD (s.extract 12 16)) k (numD (s.extract 5 7)) (numD (s.extract 17 19)) (numD (s.extract 20 22)) (numD (s.extract 23 25))) (soV (numD (s.extract 12 16)) k (numD (s.extract 5 7)) (numD (s.extract 17 19)) (numD (s.extract 20 22)) (numD (s.extract 23 25)))
theorem room2_set {w : World} {b : Nat} {c v c' v' : Int} (h : Room2 w b c v) : Room2 ((w.setCell ⟨b, 0, none⟩ (.int .i64 c')).setCell ⟨b, 1, none⟩ (.int .i64 v')) b c' v' := by
  obtain ⟨q0, q1⟩ := two_set (v0 := .int .i64 c') (v1 := .int .i64 v') h.c0 h.c1
  exact ⟨q0, q1, by rw [World.frozen?_setCell, World.frozen?_setCell, h.f0], by rw [World.frozen?_setCell, World.frozen?_setCell, h.f1]⟩
theorem tfield_text (c : Int) (t : ByteArray) (w : World) : (Instr.field 26 (.agg #[.int .i64 c, .string t]) 1).run Tryd.prog w = .ok (.string t) w := by kernel_rfl
set_option maxRecDepth 100000 in
set_option maxHeartbeats 16000000 in
theorem secondsIn_any (s : ByteArray) (w : World) (hp : PowIs w) :
    Calls Tryd.prog 94 #[.string s] w fun e w' => SecOr s e ∧ Below w.heap.size w w' := by
  by_cases hz : ¬ s.size = 29
  · have HZ : Hid (¬ s.size = 29) := hz
    have hz2 : ¬ (s.size : Int) = 29 := by omega
    clear hz hp
    go_enter Tryd.func94, Tryd.ntmps94
    go_wp2
    exact ⟨rfl, .inr ⟨⟨_, _, rfl⟩, fun h => absurd h HZ.out⟩, Below.refl _ _⟩
  have hz : s.size = 29 := Decidable.not_not.1 hz
  have HZ : Hid (s.size = 29) := hz
  have hz2 : (s.size : Int) = 29 := by omega
  have HP : Hid (PowIs w) := hp
  clear hp hz
  go_enter Tryd.func94, Tryd.ntmps94
  go_wp2_with fail
  go_cut [3] from 8 to 27 (fun s3 wx => ReadAt s w s3 wx)
  case first =>
    refine wp_region_any (by kernel_rfl) ?_
    change wpAny _ _ _ _ _ _ _ (World.drew _)
    obtain ⟨v0, hv0⟩ : ∃ X, X = w.drew := ⟨_, rfl⟩
    rw [← hv0]
    have KD : Hid (Below w.heap.size w v0) := by
      show Below _ _ _
      rw [hv0]
      exact (Below.refl _ _).drew
    clear hv0
    refine wpAny_take (i := 0) (v := .string s) rfl (by kernel_rfl) (by kernel_rfl) (by kernel_rfl) (fun _ _ _ h => h) (Or.inl ⟨by rfl, ?_⟩) ?_
    · intro w; go_simp
    refine wpAny_take (i := 1) (v := .string (s.extract 12 16)) rfl (by kernel_rfl) (by kernel_rfl) (by kernel_rfl) (fun _ _ _ h => h) (Or.inl ⟨by rfl, ?_⟩) ?_
    · intro w; go_simp
    refine wpAny_take (i := 3) (v := .string s) rfl (by kernel_rfl) (by kernel_rfl) (by kernel_rfl) (fun _ _ _ h => h) (Or.inl ⟨by rfl, ?_⟩) ?_
    · intro w; go_simp
    refine wpAny_take (i := 4) (v := .string (s.extract 8 11)) rfl (by kernel_rfl) (by kernel_rfl) (by kernel_rfl) (fun _ _ _ h => h) (Or.inl ⟨by rfl, ?_⟩) ?_
    · intro w; go_simp
    refine wpAny_take (i := 6) (v := .string s) rfl (by kernel_rfl) (by kernel_rfl) (by kernel_rfl) (fun _ _ _ h => h) (Or.inl ⟨by rfl, ?_⟩) ?_
    · intro w; go_simp
    refine wpAny_take (i := 7) (v := .string (s.extract 5 7)) rfl (by kernel_rfl) (by kernel_rfl) (by kernel_rfl) (fun _ _ _ h => h) (Or.inl ⟨by rfl, ?_⟩) ?_
    · intro w; go_simp
    refine wpAny_take (i := 9) (v := .string s) rfl (by kernel_rfl) (by kernel_rfl) (by kernel_rfl) (fun _ _ _ h => h) (Or.inl ⟨by rfl, ?_⟩) ?_
    · intro w; go_simp
    refine wpAny_take (i := 10) (v := .string (s.extract 17 19)) rfl (by kernel_rfl) (by kernel_rfl) (by kernel_rfl) (fun _ _ _ h => h) (Or.inl ⟨by rfl, ?_⟩) ?_
    · intro w; go_simp
    refine wpAny_take (i := 12) (v := .string s) rfl (by kernel_rfl) (by kernel_rfl) (by kernel_rfl) (fun _ _ _ h => h) (Or.inl ⟨by rfl, ?_⟩) ?_
    · intro w; go_simp
    refine wpAny_take (i := 13) (v := .string (s.extract 20 22)) rfl (by kernel_rfl) (by kernel_rfl) (by kernel_rfl) (fun _ _ _ h => h) (Or.inl ⟨by rfl, ?_⟩) ?_
    · intro w; go_simp
    refine wpAny_take (i := 15) (v := .string s) rfl (by kernel_rfl) (by kernel_rfl) (by kernel_rfl) (fun _ _ _ h => h) (Or.inl ⟨by rfl, ?_⟩) ?_
    · intro w; go_simp
    refine wpAny_take (i := 16) (v := .string (s.extract 23 25)) rfl (by kernel_rfl) (by kernel_rfl) (by kernel_rfl) (fun _ _ _ h => h) (Or.inl ⟨by rfl, ?_⟩) ?_
    · intro w; go_simp

    refine wpAny_ready (rs := [2, 20]) (by kernel_rfl) (by simp) ?_
    refine AllReady.cons rfl (fun K hK => ?_) (AllReady.cons rfl (fun K hK => ?_) AllReady.nil)
    · go_simp
      go_wp2_with fail
      refine (digitsIn_any _ _).mono ?_
      rintro e v1 ⟨h, hb⟩
      have Kv1 : Hid (Below w.heap.size w v1) := KD.out.trans (hb.mono KD.out.size)
      clear hb KD
      rcases h with ⟨h, rfl⟩ | ⟨h, u, pv, rfl⟩
      rotate_left
      · go_wp2_with fail
        exact ⟨rfl, .inr ⟨⟨_, _, rfl⟩, fun _ m hc => by have := (cand_num hc).1; rw [h] at this; cases this⟩, Kv1.out⟩
      clear h
      refine hK _ _ ?_
      clear hK K
      refine wpAny_ready (rs := [5, 20]) (by kernel_rfl) (by simp) ?_
      refine AllReady.cons rfl (fun K hK => ?_) (AllReady.cons rfl (fun K hK => ?_) AllReady.nil)
      · go_simp
        go_wp2_with fail
        refine (monthIn_any _ _).mono ?_
        rintro e v2 ⟨h, hw⟩
        have Kv2 : Hid (Below w.heap.size w v2) := by
          rw [hw]; exact Kv1.out
        clear hw Kv1
        rcases h with ⟨k, hk0, hk1, hkm, rfl⟩ | ⟨⟨u, pv, rfl⟩, hnm⟩
        rotate_left
        · go_wp2_with fail
          exact ⟨rfl, .inr ⟨⟨_, _, rfl⟩, fun _ m hc => hnm m hc.m0 hc.m1 hc.mon⟩, Kv2.out⟩
        have HM : Hid (1 ≤ k ∧ k ≤ 12 ∧ moT k = s.extract 8 11) := ⟨hk0, hk1, hkm⟩
        clear hk0 hk1 hkm
        refine hK _ _ ?_
        clear hK K
        refine wpAny_ready (rs := [8, 20]) (by kernel_rfl) (by simp) ?_
        refine AllReady.cons rfl (fun K hK => ?_) (AllReady.cons rfl (fun K hK => ?_) AllReady.nil)
        · go_simp
          go_wp2_with fail
          refine (digitsIn_any _ _).mono ?_
          rintro e v3 ⟨h, hb⟩
          have Kv3 : Hid (Below w.heap.size w v3) := Kv2.out.trans (hb.mono Kv2.out.size)
          clear hb Kv2
          rcases h with ⟨h, rfl⟩ | ⟨h, u, pv, rfl⟩
          rotate_left
          · go_wp2_with fail
            exact ⟨rfl, .inr ⟨⟨_, _, rfl⟩, fun _ m hc => by have := (cand_num hc).2.1; rw [h] at this; cases this⟩, Kv3.out⟩
          clear h
          refine hK _ _ ?_
          clear hK K
          refine wpAny_ready (rs := [11, 20]) (by kernel_rfl) (by simp) ?_
          refine AllReady.cons rfl (fun K hK => ?_) (AllReady.cons rfl (fun K hK => ?_) AllReady.nil)
          · go_simp
            go_wp2_with fail
            refine (digitsIn_any _ _).mono ?_
            rintro e v4 ⟨h, hb⟩
            have Kv4 : Hid (Below w.heap.size w v4) := Kv3.out.trans (hb.mono Kv3.out.size)
            clear hb Kv3
            rcases h with ⟨h, rfl⟩ | ⟨h, u, pv, rfl⟩
            rotate_left
            · go_wp2_with fail
              exact ⟨rfl, .inr ⟨⟨_, _, rfl⟩, fun _ m hc => by have := (cand_num hc).2.2.1; rw [h] at this; cases this⟩, Kv4.out⟩
            clear h
            refine hK _ _ ?_
            clear hK K
            refine wpAny_ready (rs := [14, 20]) (by kernel_rfl) (by simp) ?_
            refine AllReady.cons rfl (fun K hK => ?_) (AllReady.cons rfl (fun K hK => ?_) AllReady.nil)
            · go_simp
              go_wp2_with fail
              refine (digitsIn_any _ _).mono ?_
              rintro e v5 ⟨h, hb⟩
              have Kv5 : Hid (Below w.heap.size w v5) := Kv4.out.trans (hb.mono Kv4.out.size)
              clear hb Kv4
              rcases h with ⟨h, rfl⟩ | ⟨h, u, pv, rfl⟩
              rotate_left
              · go_wp2_with fail
                exact ⟨rfl, .inr ⟨⟨_, _, rfl⟩, fun _ m hc => by have := (cand_num hc).2.2.2.1; rw [h] at this; cases this⟩, Kv5.out⟩
              clear h
              refine hK _ _ ?_
              clear hK K
              refine wpAny_ready (rs := [17, 20]) (by kernel_rfl) (by simp) ?_
              refine AllReady.cons rfl (fun K hK => ?_) (AllReady.cons rfl (fun K hK => ?_) AllReady.nil)
              · go_simp
                go_wp2_with fail
                refine (digitsIn_any _ _).mono ?_
                rintro e v6 ⟨h, hb⟩
                have Kv6 : Hid (Below w.heap.size w v6) := Kv5.out.trans (hb.mono Kv5.out.size)
                clear hb Kv5
                rcases h with ⟨h, rfl⟩ | ⟨h, u, pv, rfl⟩
                rotate_left
                · go_wp2_with fail
                  exact ⟨rfl, .inr ⟨⟨_, _, rfl⟩, fun _ m hc => by have := (cand_num hc).2.2.2.2; rw [h] at this; cases this⟩, Kv6.out⟩
                clear h
                refine hK _ _ ?_
                clear hK K
                refine wpAny_take (i := 18) (v := .agg #[.int .i64 (numD (s.extract 12 16)), .int .i64 k, .int .i64 (numD (s.extract 5 7)), .int .i64 (numD (s.extract 17 19)), .int .i64 (numD (s.extract 20 22)), .int .i64 (numD (s.extract 23 25))]) rfl (by kernel_rfl) (by kernel_rfl) (by kernel_rfl) (fun _ _ _ h => h) (Or.inl ⟨by rfl, ?_⟩) ?_
                · intro w; go_simp
                refine wpAny_ready (rs := [19, 20]) (by kernel_rfl) (by simp) ?_
                refine AllReady.cons rfl (fun K hK => ?_) (AllReady.cons rfl (fun K hK => ?_) AllReady.nil)
                · go_simp
                  go_wp2_with fail
                  refine (implSecondsOf_any _ _ _ _ _ _ _).mono ?_
                  rintro e v7 ⟨rfl, hb⟩
                  have Kv7 : Hid (Below w.heap.size w v7) := Kv6.out.trans (hb.mono Kv6.out.size)
                  clear hb Kv6
                  refine hK _ _ ?_
                  clear hK K
                  refine wpAny_ready (rs := [20]) (by kernel_rfl) (by simp) ?_
                  refine AllReady.cons rfl (fun K hK => ?_) AllReady.nil
                  go_simp
                  refine hK _ _ ?_
                  clear hK K
                  obtain ⟨v8, hv8⟩ : ∃ X, X = (v7).alloc (.cells #[.int .i64 0, .int .i64 0] 32) := ⟨_, rfl⟩
                  have Kv8 : Hid (Below w.heap.size w v8 ∧ Room2 v8 (v7).heap.size 0 0) := by
                    rw [hv8]
                    exact ⟨Kv7.out.alloc Kv7.out.size _, room2_new _ 0 0 _⟩
                  try rw [← hv8]
                  clear hv8
                  have HB : Hid (w.heap.size ≤ (v7).heap.size) := Kv7.out.size
                  clear Kv7
                  generalize (v7).heap.size = B at *
                  obtain ⟨r0, r1, rf0, rf1⟩ := Kv8.out.2
                  refine wpAny_ready (rs := [21]) (by kernel_rfl) (by simp) ?_
                  refine AllReady.cons rfl (fun K hK => ?_) AllReady.nil
                  go_simp
                  refine hK _ _ ?_
                  clear hK K
                  refine wpAny_done (by kernel_rfl) ?_ _
                  go_wp2_with fail
                  go_meet
                  exact ⟨B, k, rfl, HM.out, (Kv8.out.1.setCell HB.out _).setCell HB.out _, room2_set Kv8.out.2⟩
                · go_simp
                  refine hK _ _ ?_
                  clear hK K
                  obtain ⟨v9, hv9⟩ : ∃ X, X = (v6).alloc (.cells #[.int .i64 0, .int .i64 0] 32) := ⟨_, rfl⟩
                  have Kv9 : Hid (Below w.heap.size w v9 ∧ Room2 v9 (v6).heap.size 0 0) := by
                    rw [hv9]
                    exact ⟨Kv6.out.alloc Kv6.out.size _, room2_new _ 0 0 _⟩
                  try rw [← hv9]
                  clear hv9
                  have HB : Hid (w.heap.size ≤ (v6).heap.size) := Kv6.out.size
                  clear Kv6
                  generalize (v6).heap.size = B at *
                  refine wpAny_ready (rs := [19]) (by kernel_rfl) (by simp) ?_
                  refine AllReady.cons rfl (fun K hK => ?_) AllReady.nil
                  go_simp
                  go_wp2_with fail
                  refine (implSecondsOf_any _ _ _ _ _ _ _).mono ?_
                  rintro e v10 ⟨rfl, hb⟩
                  have Kv10 : Hid (Below w.heap.size w v10 ∧ Room2 v10 B 0 0) := ⟨Kv9.out.1.trans (hb.mono Kv9.out.1.size), Kv9.out.2.keep hb⟩
                  clear hb Kv9
                  refine hK _ _ ?_
                  clear hK K
                  obtain ⟨r0, r1, rf0, rf1⟩ := Kv10.out.2
                  refine wpAny_ready (rs := [21]) (by kernel_rfl) (by simp) ?_
                  refine AllReady.cons rfl (fun K hK => ?_) AllReady.nil
                  go_simp
                  refine hK _ _ ?_
                  clear hK K
                  refine wpAny_done (by kernel_rfl) ?_ _
                  go_wp2_with fail
                  go_meet
                  exact ⟨B, k, rfl, HM.out, (Kv10.out.1.setCell HB.out _).setCell HB.out _, room2_set Kv10.out.2⟩
              · go_simp
                refine hK _ _ ?_
                clear hK K
                obtain ⟨v11, hv11⟩ : ∃ X, X = (v5).alloc (.cells #[.int .i64 0, .int .i64 0] 32) := ⟨_, rfl⟩
                have Kv11 : Hid (Below w.heap.size w v11 ∧ Room2 v11 (v5).heap.size 0 0) := by
                  rw [hv11]
                  exact ⟨Kv5.out.alloc Kv5.out.size _, room2_new _ 0 0 _⟩
                try rw [← hv11]
                clear hv11
                have HB : Hid (w.heap.size ≤ (v5).heap.size) := Kv5.out.size
                clear Kv5
                generalize (v5).heap.size = B at *
                refine wpAny_ready (rs := [17]) (by kernel_rfl) (by simp) ?_
                refine AllReady.cons rfl (fun K hK => ?_) AllReady.nil
                go_simp
                go_wp2_with fail
                refine (digitsIn_any _ _).mono ?_
                rintro e v12 ⟨h, hb⟩
                have Kv12 : Hid (Below w.heap.size w v12 ∧ Room2 v12 B 0 0) := ⟨Kv11.out.1.trans (hb.mono Kv11.out.1.size), Kv11.out.2.keep hb⟩
                clear hb Kv11
                rcases h with ⟨h, rfl⟩ | ⟨h, u, pv, rfl⟩
                rotate_left
                · go_wp2_with fail
                  exact ⟨rfl, .inr ⟨⟨_, _, rfl⟩, fun _ m hc => by have := (cand_num hc).2.2.2.2; rw [h] at this; cases this⟩, Kv12.out.1⟩
                clear h
                refine hK _ _ ?_
                clear hK K
                refine wpAny_take (i := 18) (v := .agg #[.int .i64 (numD (s.extract 12 16)), .int .i64 k, .int .i64 (numD (s.extract 5 7)), .int .i64 (numD (s.extract 17 19)), .int .i64 (numD (s.extract 20 22)), .int .i64 (numD (s.extract 23 25))]) rfl (by kernel_rfl) (by kernel_rfl) (by kernel_rfl) (fun _ _ _ h => h) (Or.inl ⟨by rfl, ?_⟩) ?_
                · intro w; go_simp
                refine wpAny_ready (rs := [19]) (by kernel_rfl) (by simp) ?_
                refine AllReady.cons rfl (fun K hK => ?_) AllReady.nil
                go_simp
                go_wp2_with fail
                refine (implSecondsOf_any _ _ _ _ _ _ _).mono ?_
                rintro e v13 ⟨rfl, hb⟩
                have Kv13 : Hid (Below w.heap.size w v13 ∧ Room2 v13 B 0 0) := ⟨Kv12.out.1.trans (hb.mono Kv12.out.1.size), Kv12.out.2.keep hb⟩
                clear hb Kv12
                refine hK _ _ ?_
                clear hK K
                obtain ⟨r0, r1, rf0, rf1⟩ := Kv13.out.2
                refine wpAny_ready (rs := [21]) (by kernel_rfl) (by simp) ?_
                refine AllReady.cons rfl (fun K hK => ?_) AllReady.nil
                go_simp
                refine hK _ _ ?_
                clear hK K
                refine wpAny_done (by kernel_rfl) ?_ _
                go_wp2_with fail
                go_meet
                exact ⟨B, k, rfl, HM.out, (Kv13.out.1.setCell HB.out _).setCell HB.out _, room2_set Kv13.out.2⟩
            · go_simp
              refine hK _ _ ?_
              clear hK K
              obtain ⟨v14, hv14⟩ : ∃ X, X = (v4).alloc (.cells #[.int .i64 0, .int .i64 0] 32) := ⟨_, rfl⟩
              have Kv14 : Hid (Below w.heap.size w v14 ∧ Room2 v14 (v4).heap.size 0 0) := by
                rw [hv14]
                exact ⟨Kv4.out.alloc Kv4.out.size _, room2_new _ 0 0 _⟩
              try rw [← hv14]
              clear hv14
              have HB : Hid (w.heap.size ≤ (v4).heap.size) := Kv4.out.size
              clear Kv4
              generalize (v4).heap.size = B at *
              refine wpAny_ready (rs := [14]) (by kernel_rfl) (by simp) ?_
              refine AllReady.cons rfl (fun K hK => ?_) AllReady.nil
              go_simp
              go_wp2_with fail
              refine (digitsIn_any _ _).mono ?_
              rintro e v15 ⟨h, hb⟩
              have Kv15 : Hid (Below w.heap.size w v15 ∧ Room2 v15 B 0 0) := ⟨Kv14.out.1.trans (hb.mono Kv14.out.1.size), Kv14.out.2.keep hb⟩
              clear hb Kv14
              rcases h with ⟨h, rfl⟩ | ⟨h, u, pv, rfl⟩
              rotate_left
              · go_wp2_with fail
                exact ⟨rfl, .inr ⟨⟨_, _, rfl⟩, fun _ m hc => by have := (cand_num hc).2.2.2.1; rw [h] at this; cases this⟩, Kv15.out.1⟩
              clear h
              refine hK _ _ ?_
              clear hK K
              refine wpAny_ready (rs := [17]) (by kernel_rfl) (by simp) ?_
              refine AllReady.cons rfl (fun K hK => ?_) AllReady.nil
              go_simp
              go_wp2_with fail
              refine (digitsIn_any _ _).mono ?_
              rintro e v16 ⟨h, hb⟩
              have Kv16 : Hid (Below w.heap.size w v16 ∧ Room2 v16 B 0 0) := ⟨Kv15.out.1.trans (hb.mono Kv15.out.1.size), Kv15.out.2.keep hb⟩
              clear hb Kv15
              rcases h with ⟨h, rfl⟩ | ⟨h, u, pv, rfl⟩
              rotate_left
              · go_wp2_with fail
                exact ⟨rfl, .inr ⟨⟨_, _, rfl⟩, fun _ m hc => by have := (cand_num hc).2.2.2.2; rw [h] at this; cases this⟩, Kv16.out.1⟩
              clear h
              refine hK _ _ ?_
              clear hK K
              refine wpAny_take (i := 18) (v := .agg #[.int .i64 (numD (s.extract 12 16)), .int .i64 k, .int .i64 (numD (s.extract 5 7)), .int .i64 (numD (s.extract 17 19)), .int .i64 (numD (s.extract 20 22)), .int .i64 (numD (s.extract 23 25))]) rfl (by kernel_rfl) (by kernel_rfl) (by kernel_rfl) (fun _ _ _ h => h) (Or.inl ⟨by rfl, ?_⟩) ?_
              · intro w; go_simp
              refine wpAny_ready (rs := [19]) (by kernel_rfl) (by simp) ?_
              refine AllReady.cons rfl (fun K hK => ?_) AllReady.nil
              go_simp
              go_wp2_with fail
              refine (implSecondsOf_any _ _ _ _ _ _ _).mono ?_
              rintro e v17 ⟨rfl, hb⟩
              have Kv17 : Hid (Below w.heap.size w v17 ∧ Room2 v17 B 0 0) := ⟨Kv16.out.1.trans (hb.mono Kv16.out.1.size), Kv16.out.2.keep hb⟩
              clear hb Kv16
              refine hK _ _ ?_
              clear hK K
              obtain ⟨r0, r1, rf0, rf1⟩ := Kv17.out.2
              refine wpAny_ready (rs := [21]) (by kernel_rfl) (by simp) ?_
              refine AllReady.cons rfl (fun K hK => ?_) AllReady.nil
              go_simp
              refine hK _ _ ?_
              clear hK K
              refine wpAny_done (by kernel_rfl) ?_ _
              go_wp2_with fail
              go_meet
              exact ⟨B, k, rfl, HM.out, (Kv17.out.1.setCell HB.out _).setCell HB.out _, room2_set Kv17.out.2⟩
          · go_simp
            refine hK _ _ ?_
            clear hK K
            obtain ⟨v18, hv18⟩ : ∃ X, X = (v3).alloc (.cells #[.int .i64 0, .int .i64 0] 32) := ⟨_, rfl⟩
            have Kv18 : Hid (Below w.heap.size w v18 ∧ Room2 v18 (v3).heap.size 0 0) := by
              rw [hv18]
              exact ⟨Kv3.out.alloc Kv3.out.size _, room2_new _ 0 0 _⟩
            try rw [← hv18]
            clear hv18
            have HB : Hid (w.heap.size ≤ (v3).heap.size) := Kv3.out.size
            clear Kv3
            generalize (v3).heap.size = B at *
            refine wpAny_ready (rs := [11]) (by kernel_rfl) (by simp) ?_
            refine AllReady.cons rfl (fun K hK => ?_) AllReady.nil
            go_simp
            go_wp2_with fail
            refine (digitsIn_any _ _).mono ?_
            rintro e v19 ⟨h, hb⟩
            have Kv19 : Hid (Below w.heap.size w v19 ∧ Room2 v19 B 0 0) := ⟨Kv18.out.1.trans (hb.mono Kv18.out.1.size), Kv18.out.2.keep hb⟩
            clear hb Kv18
            rcases h with ⟨h, rfl⟩ | ⟨h, u, pv, rfl⟩
            rotate_left
            · go_wp2_with fail
              exact ⟨rfl, .inr ⟨⟨_, _, rfl⟩, fun _ m hc => by have := (cand_num hc).2.2.1; rw [h] at this; cases this⟩, Kv19.out.1⟩
            clear h
            refine hK _ _ ?_
            clear hK K
            refine wpAny_ready (rs := [14]) (by kernel_rfl) (by simp) ?_
            refine AllReady.cons rfl (fun K hK => ?_) AllReady.nil
            go_simp
            go_wp2_with fail
            refine (digitsIn_any _ _).mono ?_
            rintro e v20 ⟨h, hb⟩
            have Kv20 : Hid (Below w.heap.size w v20 ∧ Room2 v20 B 0 0) := ⟨Kv19.out.1.trans (hb.mono Kv19.out.1.size), Kv19.out.2.keep hb⟩
            clear hb Kv19
            rcases h with ⟨h, rfl⟩ | ⟨h, u, pv, rfl⟩
            rotate_left
            · go_wp2_with fail
              exact ⟨rfl, .inr ⟨⟨_, _, rfl⟩, fun _ m hc => by have := (cand_num hc).2.2.2.1; rw [h] at this; cases this⟩, Kv20.out.1⟩
            clear h
            refine hK _ _ ?_
            clear hK K
            refine wpAny_ready (rs := [17]) (by kernel_rfl) (by simp) ?_
            refine AllReady.cons rfl (fun K hK => ?_) AllReady.nil
            go_simp
            go_wp2_with fail
            refine (digitsIn_any _ _).mono ?_
            rintro e v21 ⟨h, hb⟩
            have Kv21 : Hid (Below w.heap.size w v21 ∧ Room2 v21 B 0 0) := ⟨Kv20.out.1.trans (hb.mono Kv20.out.1.size), Kv20.out.2.keep hb⟩
            clear hb Kv20
            rcases h with ⟨h, rfl⟩ | ⟨h, u, pv, rfl⟩
            rotate_left
            · go_wp2_with fail
              exact ⟨rfl, .inr ⟨⟨_, _, rfl⟩, fun _ m hc => by have := (cand_num hc).2.2.2.2; rw [h] at this; cases this⟩, Kv21.out.1⟩
            clear h
            refine hK _ _ ?_
            clear hK K
            refine wpAny_take (i := 18) (v := .agg #[.int .i64 (numD (s.extract 12 16)), .int .i64 k, .int .i64 (numD (s.extract 5 7)), .int .i64 (numD (s.extract 17 19)), .int .i64 (numD (s.extract 20 22)), .int .i64 (numD (s.extract 23 25))]) rfl (by kernel_rfl) (by kernel_rfl) (by kernel_rfl) (fun _ _ _ h => h) (Or.inl ⟨by rfl, ?_⟩) ?_
            · intro w; go_simp
            refine wpAny_ready (rs := [19]) (by kernel_rfl) (by simp) ?_
            refine AllReady.cons rfl (fun K hK => ?_) AllReady.nil
            go_simp
            go_wp2_with fail
            refine (implSecondsOf_any _ _ _ _ _ _ _).mono ?_
            rintro e v22 ⟨rfl, hb⟩
            have Kv22 : Hid (Below w.heap.size w v22 ∧ Room2 v22 B 0 0) := ⟨Kv21.out.1.trans (hb.mono Kv21.out.1.size), Kv21.out.2.keep hb⟩
            clear hb Kv21
            refine hK _ _ ?_
            clear hK K
            obtain ⟨r0, r1, rf0, rf1⟩ := Kv22.out.2
            refine wpAny_ready (rs := [21]) (by kernel_rfl) (by simp) ?_
            refine AllReady.cons rfl (fun K hK => ?_) AllReady.nil
            go_simp
            refine hK _ _ ?_
            clear hK K
            refine wpAny_done (by kernel_rfl) ?_ _
            go_wp2_with fail
            go_meet
            exact ⟨B, k, rfl, HM.out, (Kv22.out.1.setCell HB.out _).setCell HB.out _, room2_set Kv22.out.2⟩
        · go_simp
          refine hK _ _ ?_
          clear hK K
          obtain ⟨v23, hv23⟩ : ∃ X, X = (v2).alloc (.cells #[.int .i64 0, .int .i64 0] 32) := ⟨_, rfl⟩
          have Kv23 : Hid (Below w.heap.size w v23 ∧ Room2 v23 (v2).heap.size 0 0) := by
            rw [hv23]
            exact ⟨Kv2.out.alloc Kv2.out.size _, room2_new _ 0 0 _⟩
          try rw [← hv23]
          clear hv23
          have HB : Hid (w.heap.size ≤ (v2).heap.size) := Kv2.out.size
          clear Kv2
          generalize (v2).heap.size = B at *
          refine wpAny_ready (rs := [8]) (by kernel_rfl) (by simp) ?_
          refine AllReady.cons rfl (fun K hK => ?_) AllReady.nil
          go_simp
          go_wp2_with fail
          refine (digitsIn_any _ _).mono ?_
          rintro e v24 ⟨h, hb⟩
          have Kv24 : Hid (Below w.heap.size w v24 ∧ Room2 v24 B 0 0) := ⟨Kv23.out.1.trans (hb.mono Kv23.out.1.size), Kv23.out.2.keep hb⟩
          clear hb Kv23
          rcases h with ⟨h, rfl⟩ | ⟨h, u, pv, rfl⟩
          rotate_left
          · go_wp2_with fail
            exact ⟨rfl, .inr ⟨⟨_, _, rfl⟩, fun _ m hc => by have := (cand_num hc).2.1; rw [h] at this; cases this⟩, Kv24.out.1⟩
          clear h
          refine hK _ _ ?_
          clear hK K
          refine wpAny_ready (rs := [11]) (by kernel_rfl) (by simp) ?_
          refine AllReady.cons rfl (fun K hK => ?_) AllReady.nil
          go_simp
          go_wp2_with fail
          refine (digitsIn_any _ _).mono ?_
          rintro e v25 ⟨h, hb⟩
          have Kv25 : Hid (Below w.heap.size w v25 ∧ Room2 v25 B 0 0) := ⟨Kv24.out.1.trans (hb.mono Kv24.out.1.size), Kv24.out.2.keep hb⟩
          clear hb Kv24
          rcases h with ⟨h, rfl⟩ | ⟨h, u, pv, rfl⟩
          rotate_left
          · go_wp2_with fail
            exact ⟨rfl, .inr ⟨⟨_, _, rfl⟩, fun _ m hc => by have := (cand_num hc).2.2.1; rw [h] at this; cases this⟩, Kv25.out.1⟩
          clear h
          refine hK _ _ ?_
          clear hK K
          refine wpAny_ready (rs := [14]) (by kernel_rfl) (by simp) ?_
          refine AllReady.cons rfl (fun K hK => ?_) AllReady.nil
          go_simp
          go_wp2_with fail
          refine (digitsIn_any _ _).mono ?_
          rintro e v26 ⟨h, hb⟩
          have Kv26 : Hid (Below w.heap.size w v26 ∧ Room2 v26 B 0 0) := ⟨Kv25.out.1.trans (hb.mono Kv25.out.1.size), Kv25.out.2.keep hb⟩
          clear hb Kv25
          rcases h with ⟨h, rfl⟩ | ⟨h, u, pv, rfl⟩
          rotate_left
          · go_wp2_with fail
            exact ⟨rfl, .inr ⟨⟨_, _, rfl⟩, fun _ m hc => by have := (cand_num hc).2.2.2.1; rw [h] at this; cases this⟩, Kv26.out.1⟩
          clear h
          refine hK _ _ ?_
          clear hK K
          refine wpAny_ready (rs := [17]) (by kernel_rfl) (by simp) ?_
          refine AllReady.cons rfl (fun K hK => ?_) AllReady.nil
          go_simp
          go_wp2_with fail
          refine (digitsIn_any _ _).mono ?_
          rintro e v27 ⟨h, hb⟩
          have Kv27 : Hid (Below w.heap.size w v27 ∧ Room2 v27 B 0 0) := ⟨Kv26.out.1.trans (hb.mono Kv26.out.1.size), Kv26.out.2.keep hb⟩
          clear hb Kv26
          rcases h with ⟨h, rfl⟩ | ⟨h, u, pv, rfl⟩
          rotate_left
          · go_wp2_with fail
            exact ⟨rfl, .inr ⟨⟨_, _, rfl⟩, fun _ m hc => by have := (cand_num hc).2.2.2.2; rw [h] at this; cases this⟩, Kv27.out.1⟩
          clear h
          refine hK _ _ ?_
          clear hK K
          refine wpAny_take (i := 18) (v := .agg #[.int .i64 (numD (s.extract 12 16)), .int .i64 k, .int .i64 (numD (s.extract 5 7)), .int .i64 (numD (s.extract 17 19)), .int .i64 (numD (s.extract 20 22)), .int .i64 (numD (s.extract 23 25))]) rfl (by kernel_rfl) (by kernel_rfl) (by kernel_rfl) (fun _ _ _ h => h) (Or.inl ⟨by rfl, ?_⟩) ?_
          · intro w; go_simp
          refine wpAny_ready (rs := [19]) (by kernel_rfl) (by simp) ?_
          refine AllReady.cons rfl (fun K hK => ?_) AllReady.nil
          go_simp
          go_wp2_with fail
          refine (implSecondsOf_any _ _ _ _ _ _ _).mono ?_
          rintro e v28 ⟨rfl, hb⟩
          have Kv28 : Hid (Below w.heap.size w v28 ∧ Room2 v28 B 0 0) := ⟨Kv27.out.1.trans (hb.mono Kv27.out.1.size), Kv27.out.2.keep hb⟩
          clear hb Kv27
          refine hK _ _ ?_
          clear hK K
          obtain ⟨r0, r1, rf0, rf1⟩ := Kv28.out.2
          refine wpAny_ready (rs := [21]) (by kernel_rfl) (by simp) ?_
          refine AllReady.cons rfl (fun K hK => ?_) AllReady.nil
          go_simp
          refine hK _ _ ?_
          clear hK K
          refine wpAny_done (by kernel_rfl) ?_ _
          go_wp2_with fail
          go_meet
          exact ⟨B, k, rfl, HM.out, (Kv28.out.1.setCell HB.out _).setCell HB.out _, room2_set Kv28.out.2⟩
      · go_simp
        refine hK _ _ ?_
        clear hK K
        obtain ⟨v29, hv29⟩ : ∃ X, X = (v1).alloc (.cells #[.int .i64 0, .int .i64 0] 32) := ⟨_, rfl⟩
        have Kv29 : Hid (Below w.heap.size w v29 ∧ Room2 v29 (v1).heap.size 0 0) := by
          rw [hv29]
          exact ⟨Kv1.out.alloc Kv1.out.size _, room2_new _ 0 0 _⟩
        try rw [← hv29]
        clear hv29
        have HB : Hid (w.heap.size ≤ (v1).heap.size) := Kv1.out.size
        clear Kv1
        generalize (v1).heap.size = B at *
        refine wpAny_ready (rs := [5]) (by kernel_rfl) (by simp) ?_
        refine AllReady.cons rfl (fun K hK => ?_) AllReady.nil
        go_simp
        go_wp2_with fail
        refine (monthIn_any _ _).mono ?_
        rintro e v30 ⟨h, hw⟩
        have Kv30 : Hid (Below w.heap.size w v30 ∧ Room2 v30 B 0 0) := by
          rw [hw]; exact Kv29.out
        clear hw Kv29
        rcases h with ⟨k, hk0, hk1, hkm, rfl⟩ | ⟨⟨u, pv, rfl⟩, hnm⟩
        rotate_left
        · go_wp2_with fail
          exact ⟨rfl, .inr ⟨⟨_, _, rfl⟩, fun _ m hc => hnm m hc.m0 hc.m1 hc.mon⟩, Kv30.out.1⟩
        have HM : Hid (1 ≤ k ∧ k ≤ 12 ∧ moT k = s.extract 8 11) := ⟨hk0, hk1, hkm⟩
        clear hk0 hk1 hkm
        refine hK _ _ ?_
        clear hK K
        refine wpAny_ready (rs := [8]) (by kernel_rfl) (by simp) ?_
        refine AllReady.cons rfl (fun K hK => ?_) AllReady.nil
        go_simp
        go_wp2_with fail
        refine (digitsIn_any _ _).mono ?_
        rintro e v31 ⟨h, hb⟩
        have Kv31 : Hid (Below w.heap.size w v31 ∧ Room2 v31 B 0 0) := ⟨Kv30.out.1.trans (hb.mono Kv30.out.1.size), Kv30.out.2.keep hb⟩
        clear hb Kv30
        rcases h with ⟨h, rfl⟩ | ⟨h, u, pv, rfl⟩
        rotate_left
        · go_wp2_with fail
          exact ⟨rfl, .inr ⟨⟨_, _, rfl⟩, fun _ m hc => by have := (cand_num hc).2.1; rw [h] at this; cases this⟩, Kv31.out.1⟩
        clear h
        refine hK _ _ ?_
        clear hK K
        refine wpAny_ready (rs := [11]) (by kernel_rfl) (by simp) ?_
        refine AllReady.cons rfl (fun K hK => ?_) AllReady.nil
        go_simp
        go_wp2_with fail
        refine (digitsIn_any _ _).mono ?_
        rintro e v32 ⟨h, hb⟩
        have Kv32 : Hid (Below w.heap.size w v32 ∧ Room2 v32 B 0 0) := ⟨Kv31.out.1.trans (hb.mono Kv31.out.1.size), Kv31.out.2.keep hb⟩
        clear hb Kv31
        rcases h with ⟨h, rfl⟩ | ⟨h, u, pv, rfl⟩
        rotate_left
        · go_wp2_with fail
          exact ⟨rfl, .inr ⟨⟨_, _, rfl⟩, fun _ m hc => by have := (cand_num hc).2.2.1; rw [h] at this; cases this⟩, Kv32.out.1⟩
        clear h
        refine hK _ _ ?_
        clear hK K
        refine wpAny_ready (rs := [14]) (by kernel_rfl) (by simp) ?_
        refine AllReady.cons rfl (fun K hK => ?_) AllReady.nil
        go_simp
        go_wp2_with fail
        refine (digitsIn_any _ _).mono ?_
        rintro e v33 ⟨h, hb⟩
        have Kv33 : Hid (Below w.heap.size w v33 ∧ Room2 v33 B 0 0) := ⟨Kv32.out.1.trans (hb.mono Kv32.out.1.size), Kv32.out.2.keep hb⟩
        clear hb Kv32
        rcases h with ⟨h, rfl⟩ | ⟨h, u, pv, rfl⟩
        rotate_left
        · go_wp2_with fail
          exact ⟨rfl, .inr ⟨⟨_, _, rfl⟩, fun _ m hc => by have := (cand_num hc).2.2.2.1; rw [h] at this; cases this⟩, Kv33.out.1⟩
        clear h
        refine hK _ _ ?_
        clear hK K
        refine wpAny_ready (rs := [17]) (by kernel_rfl) (by simp) ?_
        refine AllReady.cons rfl (fun K hK => ?_) AllReady.nil
        go_simp
        go_wp2_with fail
        refine (digitsIn_any _ _).mono ?_
        rintro e v34 ⟨h, hb⟩
        have Kv34 : Hid (Below w.heap.size w v34 ∧ Room2 v34 B 0 0) := ⟨Kv33.out.1.trans (hb.mono Kv33.out.1.size), Kv33.out.2.keep hb⟩
        clear hb Kv33
        rcases h with ⟨h, rfl⟩ | ⟨h, u, pv, rfl⟩
        rotate_left
        · go_wp2_with fail
          exact ⟨rfl, .inr ⟨⟨_, _, rfl⟩, fun _ m hc => by have := (cand_num hc).2.2.2.2; rw [h] at this; cases this⟩, Kv34.out.1⟩
        clear h
        refine hK _ _ ?_
        clear hK K
        refine wpAny_take (i := 18) (v := .agg #[.int .i64 (numD (s.extract 12 16)), .int .i64 k, .int .i64 (numD (s.extract 5 7)), .int .i64 (numD (s.extract 17 19)), .int .i64 (numD (s.extract 20 22)), .int .i64 (numD (s.extract 23 25))]) rfl (by kernel_rfl) (by kernel_rfl) (by kernel_rfl) (fun _ _ _ h => h) (Or.inl ⟨by rfl, ?_⟩) ?_
        · intro w; go_simp
        refine wpAny_ready (rs := [19]) (by kernel_rfl) (by simp) ?_
        refine AllReady.cons rfl (fun K hK => ?_) AllReady.nil
        go_simp
        go_wp2_with fail
        refine (implSecondsOf_any _ _ _ _ _ _ _).mono ?_
        rintro e v35 ⟨rfl, hb⟩
        have Kv35 : Hid (Below w.heap.size w v35 ∧ Room2 v35 B 0 0) := ⟨Kv34.out.1.trans (hb.mono Kv34.out.1.size), Kv34.out.2.keep hb⟩
        clear hb Kv34
        refine hK _ _ ?_
        clear hK K
        obtain ⟨r0, r1, rf0, rf1⟩ := Kv35.out.2
        refine wpAny_ready (rs := [21]) (by kernel_rfl) (by simp) ?_
        refine AllReady.cons rfl (fun K hK => ?_) AllReady.nil
        go_simp
        refine hK _ _ ?_
        clear hK K
        refine wpAny_done (by kernel_rfl) ?_ _
        go_wp2_with fail
        go_meet
        exact ⟨B, k, rfl, HM.out, (Kv35.out.1.setCell HB.out _).setCell HB.out _, room2_set Kv35.out.2⟩
    · go_simp
      refine hK _ _ ?_
      clear hK K
      obtain ⟨v36, hv36⟩ : ∃ X, X = (v0).alloc (.cells #[.int .i64 0, .int .i64 0] 32) := ⟨_, rfl⟩
      have Kv36 : Hid (Below w.heap.size w v36 ∧ Room2 v36 (v0).heap.size 0 0) := by
        rw [hv36]
        exact ⟨KD.out.alloc KD.out.size _, room2_new _ 0 0 _⟩
      try rw [← hv36]
      clear hv36
      have HB : Hid (w.heap.size ≤ (v0).heap.size) := KD.out.size
      clear KD
      generalize (v0).heap.size = B at *
      refine wpAny_ready (rs := [2]) (by kernel_rfl) (by simp) ?_
      refine AllReady.cons rfl (fun K hK => ?_) AllReady.nil
      go_simp
      go_wp2_with fail
      refine (digitsIn_any _ _).mono ?_
      rintro e v37 ⟨h, hb⟩
      have Kv37 : Hid (Below w.heap.size w v37 ∧ Room2 v37 B 0 0) := ⟨Kv36.out.1.trans (hb.mono Kv36.out.1.size), Kv36.out.2.keep hb⟩
      clear hb Kv36
      rcases h with ⟨h, rfl⟩ | ⟨h, u, pv, rfl⟩
      rotate_left
      · go_wp2_with fail
        exact ⟨rfl, .inr ⟨⟨_, _, rfl⟩, fun _ m hc => by have := (cand_num hc).1; rw [h] at this; cases this⟩, Kv37.out.1⟩
      clear h
      refine hK _ _ ?_
      clear hK K
      refine wpAny_ready (rs := [5]) (by kernel_rfl) (by simp) ?_
      refine AllReady.cons rfl (fun K hK => ?_) AllReady.nil
      go_simp
      go_wp2_with fail
      refine (monthIn_any _ _).mono ?_
      rintro e v38 ⟨h, hw⟩
      have Kv38 : Hid (Below w.heap.size w v38 ∧ Room2 v38 B 0 0) := by
        rw [hw]; exact Kv37.out
      clear hw Kv37
      rcases h with ⟨k, hk0, hk1, hkm, rfl⟩ | ⟨⟨u, pv, rfl⟩, hnm⟩
      rotate_left
      · go_wp2_with fail
        exact ⟨rfl, .inr ⟨⟨_, _, rfl⟩, fun _ m hc => hnm m hc.m0 hc.m1 hc.mon⟩, Kv38.out.1⟩
      have HM : Hid (1 ≤ k ∧ k ≤ 12 ∧ moT k = s.extract 8 11) := ⟨hk0, hk1, hkm⟩
      clear hk0 hk1 hkm
      refine hK _ _ ?_
      clear hK K
      refine wpAny_ready (rs := [8]) (by kernel_rfl) (by simp) ?_
      refine AllReady.cons rfl (fun K hK => ?_) AllReady.nil
      go_simp
      go_wp2_with fail
      refine (digitsIn_any _ _).mono ?_
      rintro e v39 ⟨h, hb⟩
      have Kv39 : Hid (Below w.heap.size w v39 ∧ Room2 v39 B 0 0) := ⟨Kv38.out.1.trans (hb.mono Kv38.out.1.size), Kv38.out.2.keep hb⟩
      clear hb Kv38
      rcases h with ⟨h, rfl⟩ | ⟨h, u, pv, rfl⟩
      rotate_left
      · go_wp2_with fail
        exact ⟨rfl, .inr ⟨⟨_, _, rfl⟩, fun _ m hc => by have := (cand_num hc).2.1; rw [h] at this; cases this⟩, Kv39.out.1⟩
      clear h
      refine hK _ _ ?_
      clear hK K
      refine wpAny_ready (rs := [11]) (by kernel_rfl) (by simp) ?_
      refine AllReady.cons rfl (fun K hK => ?_) AllReady.nil
      go_simp
      go_wp2_with fail
      refine (digitsIn_any _ _).mono ?_
      rintro e v40 ⟨h, hb⟩
      have Kv40 : Hid (Below w.heap.size w v40 ∧ Room2 v40 B 0 0) := ⟨Kv39.out.1.trans (hb.mono Kv39.out.1.size), Kv39.out.2.keep hb⟩
      clear hb Kv39
      rcases h with ⟨h, rfl⟩ | ⟨h, u, pv, rfl⟩
      rotate_left
      · go_wp2_with fail
        exact ⟨rfl, .inr ⟨⟨_, _, rfl⟩, fun _ m hc => by have := (cand_num hc).2.2.1; rw [h] at this; cases this⟩, Kv40.out.1⟩
      clear h
      refine hK _ _ ?_
      clear hK K
      refine wpAny_ready (rs := [14]) (by kernel_rfl) (by simp) ?_
      refine AllReady.cons rfl (fun K hK => ?_) AllReady.nil
      go_simp
      go_wp2_with fail
      refine (digitsIn_any _ _).mono ?_
      rintro e v41 ⟨h, hb⟩
      have Kv41 : Hid (Below w.heap.size w v41 ∧ Room2 v41 B 0 0) := ⟨Kv40.out.1.trans (hb.mono Kv40.out.1.size), Kv40.out.2.keep hb⟩
      clear hb Kv40
      rcases h with ⟨h, rfl⟩ | ⟨h, u, pv, rfl⟩
      rotate_left
      · go_wp2_with fail
        exact ⟨rfl, .inr ⟨⟨_, _, rfl⟩, fun _ m hc => by have := (cand_num hc).2.2.2.1; rw [h] at this; cases this⟩, Kv41.out.1⟩
      clear h
      refine hK _ _ ?_
      clear hK K
      refine wpAny_ready (rs := [17]) (by kernel_rfl) (by simp) ?_
      refine AllReady.cons rfl (fun K hK => ?_) AllReady.nil
      go_simp
      go_wp2_with fail
      refine (digitsIn_any _ _).mono ?_
      rintro e v42 ⟨h, hb⟩
      have Kv42 : Hid (Below w.heap.size w v42 ∧ Room2 v42 B 0 0) := ⟨Kv41.out.1.trans (hb.mono Kv41.out.1.size), Kv41.out.2.keep hb⟩
      clear hb Kv41
      rcases h with ⟨h, rfl⟩ | ⟨h, u, pv, rfl⟩
      rotate_left
      · go_wp2_with fail
        exact ⟨rfl, .inr ⟨⟨_, _, rfl⟩, fun _ m hc => by have := (cand_num hc).2.2.2.2; rw [h] at this; cases this⟩, Kv42.out.1⟩
      clear h
      refine hK _ _ ?_
      clear hK K
      refine wpAny_take (i := 18) (v := .agg #[.int .i64 (numD (s.extract 12 16)), .int .i64 k, .int .i64 (numD (s.extract 5 7)), .int .i64 (numD (s.extract 17 19)), .int .i64 (numD (s.extract 20 22)), .int .i64 (numD (s.extract 23 25))]) rfl (by kernel_rfl) (by kernel_rfl) (by kernel_rfl) (fun _ _ _ h => h) (Or.inl ⟨by rfl, ?_⟩) ?_
      · intro w; go_simp
      refine wpAny_ready (rs := [19]) (by kernel_rfl) (by simp) ?_
      refine AllReady.cons rfl (fun K hK => ?_) AllReady.nil
      go_simp
      go_wp2_with fail
      refine (implSecondsOf_any _ _ _ _ _ _ _).mono ?_
      rintro e v43 ⟨rfl, hb⟩
      have Kv43 : Hid (Below w.heap.size w v43 ∧ Room2 v43 B 0 0) := ⟨Kv42.out.1.trans (hb.mono Kv42.out.1.size), Kv42.out.2.keep hb⟩
      clear hb Kv42
      refine hK _ _ ?_
      clear hK K
      obtain ⟨r0, r1, rf0, rf1⟩ := Kv43.out.2
      refine wpAny_ready (rs := [21]) (by kernel_rfl) (by simp) ?_
      refine AllReady.cons rfl (fun K hK => ?_) AllReady.nil
      go_simp
      refine hK _ _ ?_
      clear hK K
      refine wpAny_done (by kernel_rfl) ?_ _
      go_wp2_with fail
      go_meet
      exact ⟨B, k, rfl, HM.out, (Kv43.out.1.setCell HB.out _).setCell HB.out _, room2_set Kv43.out.2⟩
  case rest =>
  obtain ⟨B, k, rfl, ⟨k0, k1, hM⟩, hb, hR⟩ := hcut
  have HB : Hid (Below w.heap.size w wc) := hb
  have HK : Hid (∀ m, Cand s m → m = k) := fun m hc => moT_inj hc.m0 hc.m1 k0 k1 (hc.mon.trans hM.symm)
  have HCA : Hid (parB s k = true → fmtT (parS s k) = s → Cand s k) := fun d e => ⟨k0, k1, hM, d, e⟩
  have HPB : Hid (parB s k = dateB (numD (s.extract 12 16)) k (numD (s.extract 5 7)) (numD (s.extract 17 19)) (numD (s.extract 20 22)) (numD (s.extract 23 25))) := rfl
  have HPS : Hid (parS s k = secsD (numD (s.extract 12 16)) k (numD (s.extract 5 7)) (numD (s.extract 17 19)) (numD (s.extract 20 22)) (numD (s.extract 23 25))) := rfl
  generalize numD (s.extract 12 16) = y at *
  generalize numD (s.extract 5 7) = d at *
  generalize numD (s.extract 17 19) = h at *
  generalize numD (s.extract 20 22) = i at *
  generalize numD (s.extract 23 25) = c at *
  clear hM hb
  cases hbd : dateB y k d h i c
  · rw [dfC_no hbd, soV_no hbd] at hR
    have HQ : Hid (∀ m, ¬ Cand s m) := fun m hc => by
      have e := HK.out m hc
      subst e
      have := hc.ok
      rw [HPB.out, hbd] at this
      cases this
    clear hbd
    obtain ⟨r0, r1, rf0, rf1⟩ := hR
    go_wp2_with fail
    exact ⟨rfl, .inr ⟨⟨_, _, rfl⟩, fun _ => HQ.out⟩, HB.out⟩
  · rw [dfC_yes hbd, soV_yes hbd] at hR
    have HPO : Hid (parB s k = true) := by show _ = _; rw [HPB.out, hbd]
    have ⟨hv0, hv1⟩ := secsD_bd (dateB_yes hbd)
    clear hbd
    generalize secsD y k d h i c = v at *
    have HF := implFormatDate v wc (HP.out.below HB.out)
    rw [kC_yes (knownB_of hv0 hv1), fdT_yes (knownB_of hv0 hv1)] at HF
    have hft := tfield_text
    obtain ⟨q0, q1, qf0, qf1⟩ := hR
    go_wp2_with fail
    refine HF.mono ?_
    rintro e w5 ⟨rfl, hb5⟩
    have KB5 : Hid (Below w.heap.size w w5) := HB.out.trans (hb5.mono HB.out.size)
    have p0 : w5.cell? ⟨B, 0, none⟩ = some (.int .i64 0) := by rw [hb5.cell (p := ⟨B, 0, none⟩) (block_lt_of_cell q0), q0]
    have p1 : w5.cell? ⟨B, 1, none⟩ = some (.int .i64 v) := by rw [hb5.cell (p := ⟨B, 1, none⟩) (block_lt_of_cell q1), q1]
    clear hb5 q0 q1 qf0 qf1 HF HB
    by_cases heq : fmtT v = s
    · have HC : Hid (Cand s k) := HCA.out HPO.out (by rw [HPS.out, heq])
      rw [heq]
      clear heq
      go_wp2_with fail
      go_ret
      exact ⟨.inl ⟨HZ.out, k, HC.out, by rw [HPS.out]; rfl⟩, KB5.out⟩
    · have HQ : Hid (∀ m, ¬ Cand s m) := fun m hc => by
        have e := HK.out m hc
        subst e
        have := hc.same
        rw [HPS.out] at this
        exact heq this
      have hne := str_neB heq
      clear heq
      generalize fmtT v = r at *
      go_wp2_with fail
      exact ⟨rfl, .inr ⟨⟨_, _, rfl⟩, fun _ => HQ.out⟩, KB5.out⟩
end Go.Proofs.YtibomkcbopkpkaaDoor
