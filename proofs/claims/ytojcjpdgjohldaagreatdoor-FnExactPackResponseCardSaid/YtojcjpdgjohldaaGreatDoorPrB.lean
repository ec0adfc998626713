/-
  Texts of one claim, one behind the other.
-/
import Derived.ChangeArms
import Derived.Deep.CutRange
import Derived.Deep.RegionHeld3
import Derived.Deep.RegionWith
import Derived.LaidEql
import Derived.Laws.CopyOwn
import Derived.Laws.IdiomCopy
import Derived.Laws.RangeAny
import Derived.Laws.Tables
import Derived.Lib.AppendIntMem
import Derived.Lib.ItoaLen
import Derived.Lib.ItoaNum
import Derived.Lib.LaidTab
import Derived.Lib.OthersKept
import Derived.MakeChecks
import Derived.RowKitTokens
import Derived.Stop.Asserts
import Derived.Stop.LaidErr
import Derived.WalkSmall
import Derived.Test.YtojcjpdgjohldaaGreatDoorPrA
/-
  What DropHeader and its model answer.
-/
namespace Go.Proofs.YtojcjpdgjohldaaGreatDoor
open Go.ChangeShapes Go.WideShapes Go.ChangeAt Go.RowKit Go.Sort
/-- A result: a code and head lines in memory of the call's own. -/
def HRes (c : Int) (L : List Hdr) (base : Nat) (e : Ending) (w : World) : Prop := ∃ v, e = .returned (.agg #[.int .i64 c, v]) ∧ OwnH w base v L
theorem HRes.mk {c d : Int} {L M : List Hdr} {base : Nat} {w : World} {v : Value} (h : c = d ∧ L = M) (ho : OwnH w base v M) : HRes c L base (.returned (.agg #[.int .i64 d, v])) w := ⟨v, by rw [h.1], by rw [h.2]; exact ho⟩
theorem ownH_set {w : World} {base b o : Nat} {v u : Value} {l : List Hdr} (h : OwnH w base v l) (hb : b < base) : OwnH (w.setCell ⟨b, o, none⟩ u) base v l := by
  obtain ⟨h1, h2⟩ := h
  refine ⟨h1, ?_⟩
  rcases h2 with h2 | ⟨g, c, cur, e, hg, hh, hrest⟩
  · exact .inl h2
  · exact .inr ⟨g, c, cur, e, hg, by rw [RowKit.Below.heap_setCell _ _ _ _ (by show g ≠ b; omega)]; exact hh, hrest⟩
theorem heads_room {w w1 : World} (hb : Below (w.heap.size + 1) (w.alloc (.cells #[.int .i64 0, .slice none 0 0] 109)) w1) :
    w.heap.size < w1.heap.size ∧ w1.cell? ⟨w.heap.size, 0, none⟩ = some (.int .i64 0) ∧ w1.cell? ⟨w.heap.size, 1, none⟩ = some (.slice none 0 0) ∧ w1.frozen? ⟨w.heap.size, 0, none⟩ = false ∧ w1.frozen? ⟨w.heap.size, 1, none⟩ = false ∧ Below w.heap.size w w1 := by
  have hz := hb.size
  simp only [World.size_alloc] at hz
  exact ⟨hz, by rw [hb.cell (p := ⟨w.heap.size, 0, none⟩) (Nat.lt_succ_self _)]; simp, by rw [hb.cell (p := ⟨w.heap.size, 1, none⟩) (Nat.lt_succ_self _)]; simp, by rw [hb.frozen (p := ⟨w.heap.size, 0, none⟩) (Nat.lt_succ_self _)]; simp, by rw [hb.frozen (p := ⟨w.heap.size, 1, none⟩) (Nat.lt_succ_self _)]; simp, ((Below.refl _ _).alloc (Nat.le_refl _) _).trans (hb.mono (Nat.le_succ _))⟩
set_option maxRecDepth 100000 in
set_option maxHeartbeats 8000000 in
theorem l4Drop_any (w : World) (a : Option Addr) (cap : Nat) (l : List Hdr) (name : ByteArray) (h20 : l.length ≤ 20) (hz : ∀ (i : Nat) r, l[i]? = some r → r.name.size ≤ 64) (hnm : name.size ≤ 64) (hi : HdsIn w a l) :
    Calls Tryz.prog 87 #[.slice a l.length cap, .string name] w fun e w' => KeptRes w.heap.size (dropH (lowS name) l) e w' ∧ Below w.heap.size w w' := by
  have HI : Hid (HdsIn w a l) := hi
  have HZ : Hid (∀ (i : Nat) r, l[i]? = some r → r.name.size ≤ 64) := hz
  clear hi hz
  generalize hn : l.length = n at *
  have HN : Hid (l.length = n) := hn
  clear hn
  go_enter Tryz.func87, Tryz.ntmps87
  go_wp2_with fail
  go_loopw [5, 6] (fun v i wr => ∃ (k : Nat), k ≤ n ∧ i = .int .i64 k ∧ OwnH wr w.heap.size v (dropH (lowS name) (l.take k)) ∧ Below w.heap.size w wr) (fun _ i _ => n - (intOf i).toNat)
  case atStart => exact ⟨0, Nat.zero_le _, rfl, OwnH.made0 w w.heap.size (Nat.le_refl _), (Below.refl _ _).alloc (Nat.le_refl _) _⟩
  case round =>
    obtain ⟨k, hk, rfl, ho, hb⟩ := hrel
    have HO : Hid (OwnH wr w.heap.size u5 (dropH (lowS name) (l.take k))) := ho
    have hzw := hb.size
    clear ho
    by_cases hlt : k < n
    · obtain ⟨r, hr⟩ : ∃ r, l[k]? = some r := ⟨l[k]'(by have := HN.out; omega), List.getElem?_eq_getElem _⟩
      obtain ⟨b, off, rfl, hat⟩ := HI.out.ok hr
      obtain ⟨p1, p3⟩ := (hat.keep hb) k r hr
      have z1 := HZ.out k r hr
      have HK : Hid (l.take (k + 1) = l.take k ++ [r]) := take_hdr hr
      have hlk : (dropH (lowS name) (l.take k)).length ≤ 20 := Nat.le_trans (dropH_len _ _) (by rw [List.length_take]; omega)
      have gk : (k : Int) < n := by omega
      clear hr hat HI HZ
      have KY := @dropH_yes (lowS name) r (l.take k)
      have KN := @dropH_no (lowS name) r (l.take k)
      obtain ⟨rn, rv⟩ := r
      simp only at p1 p3 z1 KY KN
      have SA := fun w => l4Alike_any rn name w (by omega) (by omega)
      by_cases he : lowS rn = lowS name
      · have HX : Hid (dropH (lowS name) (l.take (k + 1)) = dropH (lowS name) (l.take k)) := by show _ = _; rw [HK.out]; exact KY he
        have HSA : Hid (∀ w, Calls Tryz.prog 119 #[.string rn, .string name] w fun e w' => e = .returned (.bool true) ∧ Below w.heap.size w w') := by
          rw [show decide (lowS rn = lowS name) = true from by simpa using he] at SA
          exact SA
        clear SA KY KN HK he
        generalize dropH (lowS name) (l.take k) = L at *
        go_wp2_with fail
        refine (HSA.out _).mono ?_
        rintro e w2 ⟨rfl, hb2⟩
        have HO2 : Hid (OwnH w2 w.heap.size u5 L) := HO.out.below hb2
        have HB2 : Hid (Below w.heap.size w w2) := hb.trans (hb2.mono hb.size)
        clear hb2 hb HO p1 p3
        go_wp2_with fail
        go_roundw
        case rel => exact ⟨k + 1, by omega, by go_num, by rw [HX.out]; exact HO2.out, HB2.out⟩
        case measure => simp [intOf]; omega
      · have HX : Hid (dropH (lowS name) (l.take (k + 1)) = dropH (lowS name) (l.take k) ++ [⟨rn, rv⟩]) := by show _ = _; rw [HK.out]; exact KN he
        have HSA : Hid (∀ w, Calls Tryz.prog 119 #[.string rn, .string name] w fun e w' => e = .returned (.bool false) ∧ Below w.heap.size w w') := by
          rw [show decide (lowS rn = lowS name) = false from by simpa using he] at SA
          exact SA
        clear SA KY KN HK he
        generalize dropH (lowS name) (l.take k) = L at *
        go_wp2_with fail
        refine (HSA.out _).mono ?_
        rintro e w2 ⟨rfl, hb2⟩
        have HO2 : Hid (OwnH w2 w.heap.size u5 L) := HO.out.below hb2
        have HB2 : Hid (Below w.heap.size w w2) := hb.trans (hb2.mono hb.size)
        have p1 := hkeep hb2 p1
        have p3 := hkeep hb2 p3
        have hz2 := HB2.out.size
        clear hb2 hb HO
        go_wp2_with (at_builtin; refine wpList_append_hdr _ rfl (.tmp 22) (.tmp 27) rfl w.heap.size _ L rn rv rfl rfl HO2.out (by omega) hz2 ?_; intro v4 w4 HO4 hb4 hz4 hk4)
        go_roundw
        case rel => exact ⟨k + 1, by omega, by go_num, by rw [HX.out]; exact HO4, HB2.out.trans hb4⟩
        case measure => simp [intOf]; omega
    · have HX : Hid (dropH (lowS name) l = dropH (lowS name) (l.take k)) := by
        show _ = _
        rw [List.take_of_length_le (by have := HN.out; omega)]
      go_wp2_with fail
      go_ret
      exact ⟨KeptRes.mk HX.out HO.out, hb⟩
theorem dropL_bad {l : List Hdr} {name : ByteArray} (h : askC l name ≠ 0) : dropL l name = [] := by unfold dropL; rw [if_neg h]
theorem dropL_ok {l : List Hdr} {name : ByteArray} (h : askC l name = 0) : dropL l name = dropH (lowS name) l := by unfold dropL; rw [if_pos h]
theorem dropL_len (l : List Hdr) (name : ByteArray) : (dropL l name).length ≤ 20 := by
  by_cases h : askC l name = 0
  · rw [dropL_ok h]
    have := (headsC_zero (askC_zero h).1).1
    exact Nat.le_trans (dropH_len _ _) this
  · rw [dropL_bad h]; simp
theorem asked {l : List Hdr} {name : ByteArray} (h : askC l name = 0) : l.length ≤ 20 ∧ (∀ (i : Nat) r, l[i]? = some r → r.name.size ≤ 64 ∧ r.value.size ≤ 200) ∧ name.size ≤ 64 := by
  obtain ⟨h0, hw⟩ := askC_zero h
  obtain ⟨h20, hf⟩ := headsC_zero h0
  exact ⟨h20, fun i r hr => by obtain ⟨x1, x2, _⟩ := faultH_zero (hf i r hr); exact ⟨hword_max x1, x2⟩, hword_max hw⟩
theorem keptH_drop (x : ByteArray) (l : List Hdr) : keptH (fun y => if y = x then none else firstAt y l) l = dropH x l := by
  unfold keptH dropH
  refine List.filter_congr fun r hr => ?_
  by_cases e : lowS r.name = x
  · simp [e]
  · simp only [e, not_false_eq_true, decide_true]
    cases c : firstAt (lowS r.name) l with
    | some i => rfl
    | none => exact absurd rfl (firstAt_none c r hr)
set_option maxRecDepth 100000 in
set_option maxHeartbeats 4000000 in
theorem implDrop_any (w : World) (a : Option Addr) (cap : Nat) (l : List Hdr) (name : ByteArray) (hl : l.length ≤ 1048576) (hset : SetIs w) (hi : HdsIn w a l) :
    Calls Tryz.prog 128 #[.slice a l.length cap, .string name] w fun e w' => HRes (askC l name) (dropL l name) w.heap.size e w' ∧ Below w.heap.size w w' := by
  have HA : Hid (∀ W, Below w.heap.size w W → Calls Tryz.prog 134 #[.slice a l.length cap, .string name] W fun e w' => e = .returned (.int .i64 (askC l name)) ∧ Below W.heap.size W w') := fun W hb => namedFault_any W a cap l name hl (hset.below hb) (hi.keep hb)
  by_cases h0 : askC l name = 0
  · obtain ⟨h20, hz, hnm⟩ := asked h0
    have HP : Hid (∀ W, Below w.heap.size w W → Calls Tryz.prog 135 #[.slice a l.length cap] W fun e w' => e = .returned (.map (some W.heap.size)) ∧ NamesMap w' W.heap.size 20 (fun x => firstAt x l) ∧ Below W.heap.size W w') := fun W hb => firstPlaces_any W a cap l h20 (fun i r hr => (hz i r hr).1) (hi.keep hb)
    have HS : Hid (∀ W, Calls Tryz.prog 91 #[.string name] W fun e w' => e = .returned (.string (lowS name)) ∧ Below W.heap.size W w') := fun W => smallName_any name W (by omega)
    have HK : Hid (∀ W B, Below w.heap.size w W → NamesMap W B 20 (fun y => if y = lowS name then none else firstAt y l) → Calls Tryz.prog 171 #[.slice a l.length cap, .map (some B)] W fun e w' => KeptRes W.heap.size (dropL l name) e w' ∧ Below W.heap.size W w') := fun W B hb hm => by
      rw [dropL_ok h0, ← keptH_drop]
      exact linesNamed_any W a cap l B _ h20 hz (hi.keep hb) hm
    have sz := lowS_size name
    rw [h0] at HA ⊢
    clear hi hz h0 h20 hset
    generalize dropL l name = L at *
    generalize l.length = n at *
    generalize lowS name = q at *
    go_enter Tryz.func128, Tryz.ntmps128
    go_wp2_with fail
    refine (HA.out _ ((Below.refl _ _).alloc (Nat.le_refl _) _)).mono ?_
    rintro e w1 ⟨rfl, hb1⟩
    rw [World.size_alloc] at hb1
    have HB1 : Hid (Below (w.heap.size + 1) (w.alloc (.cells #[.int .i64 0, .slice none 0 0] 109)) w1) := hb1
    have hz1 : w.heap.size + 1 ≤ w1.heap.size := by have := hb1.size; rwa [World.size_alloc] at this
    clear hb1 HA
    go_wp2_with fail
    refine (HP.out _ (heads_room HB1.out).2.2.2.2.2).mono ?_
    rintro e w2 ⟨rfl, hm2, hb2⟩
    have HB2 : Hid (Below (w.heap.size + 1) (w.alloc (.cells #[.int .i64 0, .slice none 0 0] 109)) w2) := HB1.out.trans (hb2.mono hz1)
    have hz2 : w.heap.size + 1 ≤ w2.heap.size := Nat.le_trans hz1 hb2.size
    have HM2 : Hid (NamesMap w2 w1.heap.size 20 (fun x => firstAt x l)) := hm2
    clear hb2 HB1 hm2 HP
    generalize w1.heap.size = B at *
    clear w1
    go_wp2_with fail
    refine (HS.out _).mono ?_
    rintro e w3 ⟨rfl, hb3⟩
    have HB3 : Hid (Below (w.heap.size + 1) (w.alloc (.cells #[.int .i64 0, .slice none 0 0] 109)) w3) := HB2.out.trans (hb3.mono hz2)
    have hz3 : w.heap.size + 1 ≤ w3.heap.size := Nat.le_trans hz2 hb3.size
    have HM3 : Hid (NamesMap w3 B 20 (fun x => firstAt x l)) := HM2.out.below hb3
    clear hb3 HB2 HM2 HS hz2
    clear w2
    go_wp2_with (at_delete; refine wpList_del _ rfl _ _ rfl B 20 _ rfl HM3.out q rfl (by omega) (w.heap.size + 1) hz1 ?_; intro w4 HM4 hb4)
    have HB4 : Below (w.heap.size + 1) (w.alloc (.cells #[.int .i64 0, .slice none 0 0] 109)) w4 := HB3.out.trans hb4
    refine (HK.out _ _ (heads_room HB4).2.2.2.2.2 HM4).mono ?_
    rintro e w5 ⟨⟨v, rfl, ho⟩, hb5⟩
    have hz4 : w.heap.size + 1 ≤ w4.heap.size := by have := HB4.size; rwa [World.size_alloc] at this
    obtain ⟨hz5, q0, q1, f0, f1, kb⟩ := heads_room (HB4.trans (hb5.mono hz4))
    obtain ⟨va, vc, hv, _⟩ := ho.at
    generalize hn : L.length = vn at hv
    subst hv
    obtain ⟨r0, r1⟩ := two_set (v0 := .int .i64 0) (v1 := .slice va vn vc) q0 q1
    have KO : Hid (OwnH w5 (w.heap.size + 1) (.slice va vn vc) L) := ho.lower hz4
    clear hb5 HB4 HK ho hn HM4 HM3 HB3 hb4
    go_wp2_with fail
    exact bodyPost_ret (v := .agg #[.int .i64 0, .slice va vn vc]) (by simp [results, Tryz.results128, go_sem, r0, r1]) rfl ⟨HRes.mk ⟨rfl, rfl⟩ ((ownH_set (ownH_set KO.out (Nat.lt_succ_self _)) (Nat.lt_succ_self _)).lower (Nat.le_succ _)), (kb.setCell (Nat.le_refl _) _).setCell (Nat.le_refl _) _⟩
  · rw [dropL_bad h0]
    clear hi hset
    generalize askC l name = fc at *
    generalize l.length = n at *
    go_enter Tryz.func128, Tryz.ntmps128
    go_wp2_with fail
    refine (HA.out _ ((Below.refl _ _).alloc (Nat.le_refl _) _)).mono ?_
    rintro e w1 ⟨rfl, hb1⟩
    rw [World.size_alloc] at hb1
    obtain ⟨hz2, q0, q1, f0, f1, kb⟩ := heads_room hb1
    obtain ⟨r0, r1⟩ := two_set (v0 := .int .i64 fc) (v1 := .slice none 0 0) q0 q1
    clear hb1 HA
    go_wp2_with fail
    exact bodyPost_ret (v := .agg #[.int .i64 fc, .slice none 0 0]) (by simp [results, Tryz.results128, go_sem, r0, r1]) rfl ⟨HRes.mk ⟨rfl, rfl⟩ (OwnH.nil _ _), (kb.setCell (Nat.le_refl _) _).setCell (Nat.le_refl _) _⟩
end Go.Proofs.YtojcjpdgjohldaaGreatDoor
/-
  Results of head lines: compared, marked, held.
-/
namespace Go.Proofs.YtojcjpdgjohldaaGreatDoor
open Go.ChangeShapes Go.WideShapes Go.ChangeAt Go.RowKit Go.Sort
/-- A result in a variable. -/
structure HHRoom (w : World) (b : Nat) (c : Int) (v : Value) : Prop where
  c0 : w.cell? ⟨b, 0, none⟩ = some (.int .i64 c)
  c1 : w.cell? ⟨b, 1, none⟩ = some v
theorem HHRoom.lt {w : World} {b : Nat} {c : Int} {v : Value} (h : HHRoom w b c v) : b < w.heap.size := block_lt_of_cell h.c0
theorem HHRoom.keep {w w' : World} {b : Nat} {c : Int} {v : Value} (h : HHRoom w b c v) (hb : Below w.heap.size w w') : HHRoom w' b c v :=
  ⟨by rw [hb.cell (p := ⟨b, 0, none⟩) h.lt, h.c0], by rw [hb.cell (p := ⟨b, 1, none⟩) h.lt, h.c1]⟩
theorem HHRoom.av {w w' : World} {b : Nat} {c : Int} {v u : Value} (h : HHRoom w b c v) (k : HAV u w w') (hn : u.ownBlock ≠ some b) : HHRoom w' b c v :=
  ⟨by rw [k.cell b 0 h.lt hn, h.c0], by rw [k.cell b 1 h.lt hn, h.c1]⟩
theorem hroom_new (w : World) (c : Int) (a : Option Addr) (n cap : Nat) (t : TypeId) : HHRoom (w.alloc (.cells #[.int .i64 c, .slice a n cap] t)) w.heap.size c (.slice a n cap) := ⟨by simp, by simp⟩
theorem HLV.block_lt {w : World} {v : Value} {l : List Hdr} (h : HLV w v l) : ∀ b, v.ownBlock = some b → b < w.heap.size := by
  rcases h with ⟨rfl, _⟩ | ⟨g, c, rfl, hg, _⟩
  · intro b hb; cases hb
  · intro b hb; simp only [Value.ownBlock, Option.some.injEq] at hb; omega
/-- What a call hands back: head lines in memory of its own. -/
structure HGot (L : List Hdr) (base : Nat) (a : Option Addr) (n cap : Nat) (w : World) : Prop where
  len : n = L.length
  lv : HLV w (.slice a n cap) L
  ge : ∀ b, (Value.slice a n cap).ownBlock = some b → base ≤ b
theorem HRes.got {c : Int} {L : List Hdr} {base : Nat} {e : Ending} {w : World} (h : HRes c L base e w) : ∃ a n cap, e = .returned (.agg #[.int .i64 c, .slice a n cap]) ∧ HGot L base a n cap w := by
  obtain ⟨v, rfl, ho⟩ := h
  obtain ⟨a, c, rfl, _⟩ := ho.at
  exact ⟨a, _, c, rfl, rfl, ho.lv.1, ho.lv.2⟩
structure HMarkedR (w : World) (base : Nat) (a : Option Addr) (n ca : Nat) (w' : World) : Prop where
  lv : HLV w' (.slice a n ca) (mkHL 1 n)
  av : HAV (.slice a n ca) w w'
  low : Below base w w'
/-- Two results in variables, and their lines. -/
structure HKK (w : World) (X1 X2 : Nat) (c : Int) (v1 v2 : Value) (L1 L2 : List Hdr) (W : World) : Prop where
  b : Below w.heap.size w W
  r1 : HHRoom W X1 c v1
  r2 : HHRoom W X2 c v2
  l1 : HLV W v1 L1
  l2 : HLV W v2 L2
theorem HKK.keep {w : World} {X1 X2 : Nat} {c : Int} {v1 v2 : Value} {L1 L2 : List Hdr} {W W' : World} (h : HKK w X1 X2 c v1 v2 L1 L2 W) (hb : Below W.heap.size W W') : HKK w X1 X2 c v1 v2 L1 L2 W' :=
  ⟨h.b.trans (hb.mono h.b.size), h.r1.keep hb, h.r2.keep hb, h.l1.below hb, h.l2.below hb⟩
theorem HKK.av {w : World} {X1 X2 : Nat} {c : Int} {v1 v2 u : Value} {L1 L2 : List Hdr} {W W' : World} (h : HKK w X1 X2 c v1 v2 L1 L2 W) (k : HAV u W W') (hb : Below w.heap.size W W') (h1 : u.ownBlock ≠ some X1) (h2 : u.ownBlock ≠ some X2) (h3 : ∀ b, v1.ownBlock = some b → u.ownBlock ≠ some b) (h4 : ∀ b, v2.ownBlock = some b → u.ownBlock ≠ some b) : HKK w X1 X2 c v1 v2 L1 L2 W' :=
  ⟨h.b.trans hb, h.r1.av k h1, h.r2.av k h2, h.l1.av k h3, h.l2.av k h4⟩
/-- Lines of the law's own, that may be written. -/
structure HMine (W : World) (B : Nat) (l : List Hdr) : Prop where
  at0 : HeadsAt W B 0 l
  free : ∀ o, W.frozen? ⟨B, o, none⟩ = false
  lt : B < W.heap.size
theorem HMine.keep {W W' : World} {B : Nat} {l : List Hdr} (h : HMine W B l) (hb : Below W.heap.size W W') : HMine W' B l :=
  ⟨h.at0.keep hb, fun o => by rw [hb.frozen (p := ⟨B, o, none⟩) h.lt]; exact h.free o, Nat.lt_of_lt_of_le h.lt hb.size⟩
theorem HMine.mark {W : World} {B base : Nat} {l : List Hdr} (h : HMine W B l) (hl : l.length ≤ 1048576) (hb : base ≤ B) : ∃ q : Int, ¬ q < 0 ∧ Calls Tryz.prog 102 #[.slice (some ⟨B, 0, none⟩) l.length l.length, .int .i64 1] W fun e w' => e = .returned (.int .i64 q) ∧ HAV (.slice (some ⟨B, 0, none⟩) l.length l.length) W w' ∧ Below base W w' :=
  ⟨((1 + 2 * l.length : Nat) : Int), by omega, (markHeaderS_lv W (.slice (some ⟨B, 0, none⟩) l.length l.length) l hl (.inr ⟨B, _, rfl, h.lt, h.at0, h.free⟩) base (fun q hq => by simp only [Value.ownBlock, Option.some.injEq] at hq; omega) (by have := h.lt; omega)).mono fun _ _ ⟨h1, _, h3, h4⟩ => ⟨h1, h3, h4⟩⟩
end Go.Proofs.YtojcjpdgjohldaaGreatDoor
/-
  What a marking leaves as it was; requests marked.
-/
namespace Go.Proofs.YtojcjpdgjohldaaGreatDoor
open Go.ChangeShapes Go.WideShapes Go.ChangeAt Go.RowKit
/-- All that was there, but for the memory of v, is as it was. -/
structure OutV (v : Value) (W W' : World) : Prop where
  size : W.heap.size ≤ W'.heap.size
  cell : ∀ b o, b < W.heap.size → v.ownBlock ≠ some b → W'.cell? ⟨b, o, none⟩ = W.cell? ⟨b, o, none⟩
  frozen : ∀ b o, b < W.heap.size → v.ownBlock ≠ some b → W'.frozen? ⟨b, o, none⟩ = W.frozen? ⟨b, o, none⟩
theorem Four.out {v : Value} {W W' : World} {B : Nat} {v0 v1 v2 v3 : Value} (h : Four W B v0 v1 v2 v3) (k : OutV v W W') (hne : v.ownBlock ≠ some B) : Four W' B v0 v1 v2 v3 :=
  ⟨by rw [k.cell B 0 h.lt hne]; exact h.c0, by rw [k.cell B 1 h.lt hne]; exact h.c1, by rw [k.cell B 2 h.lt hne]; exact h.c2, by rw [k.cell B 3 h.lt hne]; exact h.c3, fun o => by rw [k.frozen B o h.lt hne]; exact h.fr o, Nat.lt_of_lt_of_le h.lt k.size⟩
theorem Two.out {v : Value} {W W' : World} {B : Nat} {v0 v1 : Value} (h : Two W B v0 v1) (k : OutV v W W') (hne : v.ownBlock ≠ some B) : Two W' B v0 v1 :=
  ⟨by rw [k.cell B 0 h.lt hne]; exact h.c0, by rw [k.cell B 1 h.lt hne]; exact h.c1, fun o => by rw [k.frozen B o h.lt hne]; exact h.fr o, Nat.lt_of_lt_of_le h.lt k.size⟩
theorem BOwn.out {v u : Value} {W W' : World} {base : Nat} {l : List UInt8} (h : BOwn W base u l) (k : OutV v W W') (hne : ∀ b, u.ownBlock = some b → v.ownBlock ≠ some b) : BOwn W' base u l := by
  rcases h with h | ⟨g, c, rfl, hg, hm⟩
  · exact .inl h
  · have hn := hne g rfl
    exact .inr ⟨g, c, rfl, hg, fun i x hx => by rw [k.cell g _ hm.lt hn]; exact hm.at0 i x hx, fun o ho => by rw [k.frozen g o hm.lt hn]; exact hm.free o ho, Nat.lt_of_lt_of_le hm.lt k.size⟩
theorem QMine.out {v : Value} {W W' : World} {B : Nat} {l : List Hdr} (h : QMine W B l) (k : OutV v W W') (hne : v.ownBlock ≠ some B) : QMine W' B l :=
  ⟨fun i r hr => by rw [k.cell B _ h.lt hne, k.cell B _ h.lt hne]; exact h.at0 i r hr, fun o => by rw [k.frozen B o h.lt hne]; exact h.free o, Nat.lt_of_lt_of_le h.lt k.size⟩
set_option maxHeartbeats 2000000 in
theorem markRequest_any (W : World) (m h p : ByteArray) (B base : Nat) (l : List Hdr) (hl : l.length ≤ 1048576) (hq : QMine W B l) (hb : base ≤ B) (hbW : base ≤ W.heap.size) :
    ∃ q : Int, ¬ q < 0 ∧ Calls Tryz.prog 40 #[.agg #[.string m, .string h, .string p, .slice (some ⟨B, 0, none⟩) l.length l.length], .int .i64 1] W fun e w' => e = .returned (.int .i64 q) ∧ (OutV (.slice (some ⟨B, 0, none⟩) l.length l.length) W w' ∧ Below base W w') := by
  obtain ⟨V, hV⟩ : ∃ V, V = W.alloc (.cells #[.string m, .string h, .string p, .slice (some ⟨B, 0, none⟩) l.length l.length] 26) := ⟨_, rfl⟩
  have HV : Hid (V = W.alloc (.cells #[.string m, .string h, .string p, .slice (some ⟨B, 0, none⟩) l.length l.length] 26)) := hV
  have bV : Below W.heap.size W V := by rw [hV]; exact (Below.refl _ _).alloc (Nat.le_refl _) _
  have hq' := hq.keep bV
  obtain ⟨q, hq0, C⟩ := HMine.mark (base := base) (⟨hq'.at0, hq'.free, hq'.lt⟩ : HMine V B l) hl hb
  refine ⟨q, hq0, ?_⟩
  have HB : Hid (Below W.heap.size W V ∧ base ≤ W.heap.size) := ⟨bV, hbW⟩
  clear bV hV hq hq'
  generalize l.length = n at *
  go_enter Tryz.func40, Tryz.ntmps40
  go_wp2_with fail
  rw [← HV.out]
  refine C.mono ?_
  rintro e w1 ⟨rfl, hav, hb1⟩
  have HF : Hid (OutV (.slice (some ⟨B, 0, none⟩) n n) W w1 ∧ Below base W w1) := ⟨⟨Nat.le_trans HB.out.1.size hav.size, fun b o hb0 hne => by rw [hav.cell b o (Nat.lt_of_lt_of_le hb0 HB.out.1.size) hne, HB.out.1.cell (p := ⟨b, o, none⟩) hb0], fun b o hb0 hne => by rw [hav.frozen b o (Nat.lt_of_lt_of_le hb0 HB.out.1.size) hne, HB.out.1.frozen (p := ⟨b, o, none⟩) hb0]⟩, (HB.out.1.mono HB.out.2).trans hb1⟩
  clear hav hb1 C HV HB
  go_wp2_with fail
  go_ret
  exact ⟨rfl, HF.out⟩
end Go.Proofs.YtojcjpdgjohldaaGreatDoor
/-
  Responses that came in: measured, taken over, compared.
-/
namespace Go.Proofs.YtojcjpdgjohldaaGreatDoor
open Go.ChangeShapes Go.WideShapes Go.ChangeAt Go.RowKit
structure Three (W : World) (B : Nat) (v0 v1 v2 : Value) : Prop where
  c0 : W.cell? ⟨B, 0, none⟩ = some v0
  c1 : W.cell? ⟨B, 1, none⟩ = some v1
  c2 : W.cell? ⟨B, 2, none⟩ = some v2
  fr : ∀ o, W.frozen? ⟨B, o, none⟩ = false
  lt : B < W.heap.size
theorem Three.keep {W W' : World} {B : Nat} {v0 v1 v2 : Value} (h : Three W B v0 v1 v2) (hb : Below W.heap.size W W') : Three W' B v0 v1 v2 :=
  ⟨by rw [hb.cell (p := ⟨B, 0, none⟩) h.lt]; exact h.c0, by rw [hb.cell (p := ⟨B, 1, none⟩) h.lt]; exact h.c1, by rw [hb.cell (p := ⟨B, 2, none⟩) h.lt]; exact h.c2,
    fun o => by rw [hb.frozen (p := ⟨B, o, none⟩) h.lt]; exact h.fr o, Nat.lt_of_lt_of_le h.lt hb.size⟩
theorem Three.new (W : World) (v0 v1 v2 : Value) (t : TypeId) : Three (W.alloc (.cells #[v0, v1, v2] t)) W.heap.size v0 v1 v2 :=
  ⟨by rw [World.cell?_alloc_mark]; rfl, by rw [World.cell?_alloc_mark]; rfl, by rw [World.cell?_alloc_mark]; rfl, fun o => by have e := heap_alloc_new W (.cells #[v0, v1, v2] t); unfold World.frozen?; rw [e]; simp, by simp⟩
def szP (left : Int) (l : List Hdr) (n : Nat) : Int := if szHL left l < 0 then -1 else if szHL left l - (n : Int) < 0 then -1 else szHL left l - (n : Int)
theorem szP_room {left : Int} {l : List Hdr} {n : Nat} (hl : left ≤ 1048576) (hz : ¬ szP left l n < 0) : l.length ≤ 1048576 ∧ n ≤ 1048576 ∧ szP left l n ≤ left := by
  unfold szP at hz ⊢
  by_cases c1 : szHL left l < 0
  · rw [if_pos c1] at hz; omega
  rw [if_neg c1] at hz ⊢
  by_cases c2 : szHL left l - (n : Int) < 0
  · rw [if_pos c2] at hz; omega
  rw [if_neg c2] at hz ⊢
  have a := (szHL_room hl c1).1
  have b := szHL_le c1
  exact ⟨by omega, by omega, by omega⟩
set_option maxHeartbeats 2000000 in
theorem szResponse_any (w : World) (s : Int) (a : Option Addr) (cap : Nat) (l : List Hdr) (b : Option Addr) (bn bc : Nat) (hl : l.length ≤ maxLen) (hz : SmallHdrs l) (hi : HdsIn w a l) (hbn : bn ≤ maxLen) (left : Int) (h0 : 0 ≤ left) (h1 : left ≤ 1048576) :
    Calls Tryz.prog 54 #[.agg #[.int .i64 s, .slice a l.length cap, .slice b bn bc], .int .i64 left] w fun e w' => e = .returned (.int .i64 (szP left l bn)) ∧ Below w.heap.size w w' := by
  obtain ⟨W, hW⟩ : ∃ W, W = w.alloc (.cells #[.int .i64 s, .slice a l.length cap, .slice b bn bc] 73) := ⟨_, rfl⟩
  have HW : Hid (W = w.alloc (.cells #[.int .i64 s, .slice a l.length cap, .slice b bn bc] 73)) := hW
  have bW : Below w.heap.size w W := by rw [hW]; exact (Below.refl _ _).alloc (Nat.le_refl _) _
  have fW : Three W w.heap.size (.int .i64 s) (.slice a l.length cap) (.slice b bn bc) := by rw [hW]; exact Three.new _ _ _ _ _
  have HB : Hid (Below w.heap.size w W) := bW
  have C := szHeaderS_any W a cap l hl (hi.keep bW) hz left h0 h1
  have HV1 : Hid (szHL left l < 0 → szP left l bn = -1) := fun c => by unfold szP; rw [if_pos c]
  have HV2 : Hid (¬ szHL left l < 0 → szHL left l - (bn : Int) < 0 → szP left l bn = -1) := fun c c2 => by unfold szP; rw [if_neg c, if_pos c2]
  have HV3 : Hid (¬ szHL left l < 0 → ¬ szHL left l - (bn : Int) < 0 → szP left l bn = szHL left l - (bn : Int)) := fun c c2 => by unfold szP; rw [if_neg c, if_neg c2]
  have HLE : Hid (¬ szHL left l < 0 → szHL left l ≤ left) := szHL_le
  have F : Hid (Three W w.heap.size (.int .i64 s) (.slice a l.length cap) (.slice b bn bc)) := fW
  clear hW bW hi hz fW
  generalize szHL left l = z at *
  generalize szP left l bn = q at *
  generalize l.length = n at *
  go_enter Tryz.func54, Tryz.ntmps54
  go_wp2_with fail
  rw [← HW.out]
  refine C.mono ?_
  rintro e w1 ⟨rfl, hb1⟩
  have HB1 : Hid (Below w.heap.size w w1) := HB.out.trans (hb1.mono HB.out.size)
  have c2 := (F.out.keep hb1).c2
  clear hb1 HB C HW F
  by_cases c4 : z < 0
  · have HV : Hid (q = -1) := HV1.out c4
    clear HV1 HV2 HV3 HLE
    go_wp2_with fail
    go_ret
    exact ⟨ret_int HV.out.symm, HB1.out⟩
  have hz1 := HLE.out (by omega)
  have C2 := szByteS_any b bn bc z w1 (by omega) (by omega) hbn
  by_cases c5 : z - (bn : Int) < 0
  · have HV : Hid (q = -1) := HV2.out (by omega) (by omega)
    rw [if_pos c5] at C2
    clear HV1 HV2 HV3 HLE
    go_wp2_with fail
    refine C2.mono ?_
    rintro e w2 ⟨rfl, hw⟩
    obtain rfl := hw.symm
    clear C2 hw
    go_wp2_with fail
    go_ret
    exact ⟨ret_int HV.out.symm, HB1.out⟩
  · have HV : Hid (q = z - (bn : Int)) := HV3.out (by omega) (by omega)
    rw [if_neg c5] at C2
    clear HV1 HV2 HV3 HLE
    generalize z - (bn : Int) = y at *
    go_wp2_with fail
    refine C2.mono ?_
    rintro e w2 ⟨rfl, hw⟩
    obtain rfl := hw.symm
    clear C2 hw
    go_wp2_with fail
    go_ret
    exact ⟨ret_int HV.out.symm, HB1.out⟩
/-- A response of the law's own. -/
def RespRes (k : Nat) (s : Int) (l : List Hdr) (bl : List UInt8) (e : Ending) (w' : World) : Prop :=
  ∃ B, e = .returned (.agg #[.int .i64 s, .slice (some ⟨k + 3, 0, none⟩) l.length l.length, .slice (some ⟨B, 0, none⟩) bl.length bl.length]) ∧ QMine w' (k + 3) l ∧ BMine w' B bl ∧ k + 3 < B
set_option maxHeartbeats 4000000 in
theorem toResponse_any (w : World) (s : Int) (a : Option Addr) (cap : Nat) (l : List Hdr) (b : Option Addr) (bc : Nat) (bl : List UInt8) (hl : l.length ≤ 1048576) (hbl : bl.length ≤ 1048576) (hi : HdsIn w a l) (hib : BIn w b bl) :
    Calls Tryz.prog 56 #[.agg #[.int .i64 s, .slice a l.length cap, .slice b bl.length bc]] w fun e w' => RespRes w.heap.size s l bl e w' ∧ Below w.heap.size w w' := by
  obtain ⟨W, hW⟩ : ∃ W, W = ((w.alloc (.cells #[.int .i64 s, .slice a l.length cap, .slice b bl.length bc] 73)).alloc (.cells #[.int .i64 0, .slice none 0 0, .slice none 0 0] 32)).alloc (.cells #[.int .i64 s, .slice none 0 0, .slice none 0 0] 32) := ⟨_, rfl⟩
  have HW : Hid (W = ((w.alloc (.cells #[.int .i64 s, .slice a l.length cap, .slice b bl.length bc] 73)).alloc (.cells #[.int .i64 0, .slice none 0 0, .slice none 0 0] 32)).alloc (.cells #[.int .i64 s, .slice none 0 0, .slice none 0 0] 32)) := hW
  have bW : Below w.heap.size w W := by rw [hW]; exact (((Below.refl _ _).alloc (Nat.le_refl _) _).alloc (by simp) _).alloc (by simp; omega) _
  have hsz : W.heap.size = w.heap.size + 3 := by rw [hW]; simp
  have f2 : Three W (w.heap.size + 2) (.int .i64 s) (.slice none 0 0) (.slice none 0 0) := by
    rw [hW]
    have := Three.new ((w.alloc (.cells #[.int .i64 s, .slice a l.length cap, .slice b bl.length bc] 73)).alloc (.cells #[.int .i64 0, .slice none 0 0, .slice none 0 0] 32)) (.int .i64 s) (.slice none 0 0) (.slice none 0 0) 32
    simpa using this
  have f1 : Three W (w.heap.size + 1) (.int .i64 0) (.slice none 0 0) (.slice none 0 0) := by
    rw [hW]
    have := (Three.new (w.alloc (.cells #[.int .i64 s, .slice a l.length cap, .slice b bl.length bc] 73)) (.int .i64 0) (.slice none 0 0) (.slice none 0 0) 32).keep ((Below.refl _ _).alloc (Nat.le_refl _) (.cells #[.int .i64 s, .slice none 0 0, .slice none 0 0] 32))
    simpa using this
  have f0 : Three W w.heap.size (.int .i64 s) (.slice a l.length cap) (.slice b bl.length bc) := by
    rw [hW]
    exact ((Three.new w (.int .i64 s) (.slice a l.length cap) (.slice b bl.length bc) 73).keep ((Below.refl _ _).alloc (Nat.le_refl _) _)).keep ((Below.refl _ _).alloc (Nat.le_refl _) _)
  have C := toHeaderS_free W a cap l hl (hi.keep bW)
  rw [hsz] at C
  have HB : Hid (Below w.heap.size w W) := bW
  have HZ : Hid (W.heap.size = w.heap.size + 3) := hsz
  have HC : Hid (∀ X, Below w.heap.size w X → Calls Tryz.prog 43 #[.slice b bl.length bc] X fun e w' => e = .returned (.slice (some ⟨X.heap.size, 0, none⟩) bl.length bl.length) ∧ BMine w' X.heap.size bl ∧ Below X.heap.size X w') := fun X hb => toByteS_any X b bc bl hbl (hib.keep hb)
  have F : Hid (Three W w.heap.size (.int .i64 s) (.slice a l.length cap) (.slice b bl.length bc) ∧ Three W (w.heap.size + 1) (.int .i64 0) (.slice none 0 0) (.slice none 0 0) ∧ Three W (w.heap.size + 2) (.int .i64 s) (.slice none 0 0) (.slice none 0 0)) := ⟨f0, f1, f2⟩
  clear hW bW hi hsz f1 f2 f0 hib
  have HRes : Hid (∀ e w', RespRes w.heap.size s l bl e w' ↔ RespRes w.heap.size s l bl e w') := fun _ _ => Iff.rfl
  generalize hn : l.length = n at *
  generalize hbn : bl.length = bn at *
  have HN : Hid (l.length = n ∧ bl.length = bn) := ⟨hn, hbn⟩
  clear hn hbn HRes
  go_enter Tryz.func56, Tryz.ntmps56
  go_wp2_with fail
  rw [← HW.out]
  refine C.mono ?_
  rintro e w1 ⟨rfl, hat, hlt, hfr, hb1⟩
  have hb1' : Below W.heap.size W w1 := by rw [HZ.out]; exact hb1
  obtain ⟨g0, g1, g2⟩ := F.out
  have HM1 : Hid (QMine w1 (w.heap.size + 3) l ∧ Below w.heap.size w w1 ∧ Three w1 w.heap.size (.int .i64 s) (.slice a n cap) (.slice b bn bc) ∧ Three w1 (w.heap.size + 1) (.int .i64 0) (.slice none 0 0) (.slice none 0 0)) := ⟨⟨hat, hfr, hlt⟩, HB.out.trans (hb1'.mono HB.out.size), g0.keep hb1', g1.keep hb1'⟩
  obtain ⟨a0, a1, a2, af, al⟩ := g2.keep hb1'
  have a1f := af 1
  obtain ⟨V, hV⟩ : ∃ V, V = w1.setCell ⟨w.heap.size + 2, 1, none⟩ (.slice (some ⟨w.heap.size + 3, 0, none⟩) n n) := ⟨_, rfl⟩
  have HV : Hid (V = w1.setCell ⟨w.heap.size + 2, 1, none⟩ (.slice (some ⟨w.heap.size + 3, 0, none⟩) n n)) := hV
  have ne : ∀ k j o : Nat, k ≠ w.heap.size + 2 → (⟨w.heap.size + 2, j, none⟩ : Addr) ≠ ⟨k, o, none⟩ := fun k j o hk e => by have := congrArg Addr.block e; simp only at this; omega
  have keepc : ∀ k o, k ≠ w.heap.size + 2 → V.cell? ⟨k, o, none⟩ = w1.cell? ⟨k, o, none⟩ := fun k o hk => by rw [hV, World.cell?_setCell_other _ _ _ _ (ne _ _ _ hk)]
  have keepf : ∀ k o, V.frozen? ⟨k, o, none⟩ = w1.frozen? ⟨k, o, none⟩ := fun k o => by rw [hV, World.frozen?_setCell]
  have hVs : V.heap.size = w1.heap.size := by rw [hV]; simp
  have t2 : Three V (w.heap.size + 2) (.int .i64 s) (.slice (some ⟨w.heap.size + 3, 0, none⟩) n n) (.slice none 0 0) := by
    refine ⟨?_, ?_, ?_, fun o => by rw [keepf]; exact af o, by rw [hVs]; exact al⟩
    · rw [hV, World.cell?_setCell_other _ _ _ _ (hoff_ne (by omega))]; exact a0
    · rw [hV]; exact World.cell?_setCell_same _ _ _ a1
    · rw [hV, World.cell?_setCell_other _ _ _ _ (hoff_ne (by omega))]; exact a2
  obtain ⟨q1, q2, q3, q4⟩ := HM1.out
  have K : Hid (QMine V (w.heap.size + 3) l ∧ Below w.heap.size w V ∧ Three V w.heap.size (.int .i64 s) (.slice a n cap) (.slice b bn bc) ∧ Three V (w.heap.size + 1) (.int .i64 0) (.slice none 0 0) (.slice none 0 0) ∧ Three V (w.heap.size + 2) (.int .i64 s) (.slice (some ⟨w.heap.size + 3, 0, none⟩) n n) (.slice none 0 0)) := by
    refine ⟨⟨fun i r hr => by rw [keepc _ _ (by omega), keepc _ _ (by omega)]; exact q1.at0 i r hr, fun o => by rw [keepf]; exact q1.free o, by rw [hVs]; exact q1.lt⟩, by rw [hV]; exact q2.setCell (by simp) _, ?_, ?_, t2⟩
    · exact ⟨by rw [keepc _ _ (by omega)]; exact q3.c0, by rw [keepc _ _ (by omega)]; exact q3.c1, by rw [keepc _ _ (by omega)]; exact q3.c2, fun o => by rw [keepf]; exact q3.fr o, by rw [hVs]; exact q3.lt⟩
    · exact ⟨by rw [keepc _ _ (by omega)]; exact q4.c0, by rw [keepc _ _ (by omega)]; exact q4.c1, by rw [keepc _ _ (by omega)]; exact q4.c2, fun o => by rw [keepf]; exact q4.fr o, by rw [hVs]; exact q4.lt⟩
  have C2 := HC.out V K.out.2.1
  have gc2 := q3.c2
  clear hat hlt hfr hb1 hb1' C HW HB HZ F af al g0 g1 g2 HM1 q1 q2 q3 q4 t2 keepc keepf hVs ne hV HC
  go_wp2_with fail
  have hVx := HV.out
  rw [← hVx]
  refine C2.mono ?_
  rintro e w2 ⟨rfl, hbm, hb2⟩
  obtain ⟨q1, q2, q3, q4, q5⟩ := K.out
  have k1 := q1.keep hb2
  have k4 := q4.keep hb2
  have k5 := q5.keep hb2
  have HM : Hid (QMine w2 (w.heap.size + 3) l ∧ BMine w2 V.heap.size bl ∧ Below w.heap.size w w2 ∧ w.heap.size + 3 < V.heap.size) := ⟨k1, hbm, q2.trans (hb2.mono q2.size), q1.lt⟩
  obtain ⟨a0, a1, a2, af, _⟩ := k5
  obtain ⟨b0, b1, b2, bf, _⟩ := k4
  have a2f := af 2
  have b0f := bf 0
  have b1f := bf 1
  have b2f := bf 2
  clear C2 hb2 hbm K q1 q2 q3 q4 q5 k1 af bf HV hVx
  generalize V.heap.size = B at *
  go_wp2_with fail
  obtain ⟨m1, m2, m3, m4⟩ := HM.out
  obtain ⟨rfl, rfl⟩ := HN.out
  refine bodyPost_ret (v := .agg #[.int .i64 s, .slice (some ⟨w.heap.size + 3, 0, none⟩) l.length l.length, .slice (some ⟨B, 0, none⟩) bl.length bl.length]) ?_ rfl ⟨⟨B, rfl, ?_, ?_, m4⟩, ?_⟩
  · simp [results, Tryz.results56, go_sem, b0, b1, b2]
  · have ne : ∀ k j o : Nat, k < w.heap.size + 3 → (⟨k, j, none⟩ : Addr) ≠ ⟨w.heap.size + 3, o, none⟩ := fun k j o hk e => by have := congrArg Addr.block e; simp only at this; omega
    refine ⟨fun i r hr => ?_, fun o => by simp only [World.frozen?_setCell]; exact m1.free o, by simpa using m1.lt⟩
    rw [World.cell?_setCell_other _ _ _ _ (ne _ _ _ (by omega)), World.cell?_setCell_other _ _ _ _ (ne _ _ _ (by omega)), World.cell?_setCell_other _ _ _ _ (ne _ _ _ (by omega)), World.cell?_setCell_other _ _ _ _ (ne _ _ _ (by omega)), World.cell?_setCell_other _ _ _ _ (ne _ _ _ (by omega)), World.cell?_setCell_other _ _ _ _ (ne _ _ _ (by omega)), World.cell?_setCell_other _ _ _ _ (ne _ _ _ (by omega)), World.cell?_setCell_other _ _ _ _ (ne _ _ _ (by omega))]
    exact m1.at0 i r hr
  · have ne : ∀ k j o : Nat, k < w.heap.size + 3 → (⟨k, j, none⟩ : Addr) ≠ ⟨B, o, none⟩ := fun k j o hk e => by have := congrArg Addr.block e; simp only at this; omega
    refine ⟨fun i r hr => ?_, fun o ho => by simp only [World.frozen?_setCell]; exact m2.free o ho, by simpa using m2.lt⟩
    rw [World.cell?_setCell_other _ _ _ _ (ne _ _ _ (by omega)), World.cell?_setCell_other _ _ _ _ (ne _ _ _ (by omega)), World.cell?_setCell_other _ _ _ _ (ne _ _ _ (by omega)), World.cell?_setCell_other _ _ _ _ (ne _ _ _ (by omega))]
    exact m2.at0 i r hr
  · exact (((m3.setCell (by simp; omega) _).setCell (by simp) _).setCell (by simp) _).setCell (by simp) _
set_option maxHeartbeats 2000000 in
theorem eqResponse_same (W : World) (s : Int) (b1 b2 : Nat) (l : List Hdr) (d1 d2 : Nat) (bl : List UInt8) (hl : l.length ≤ 1048576) (hbl : bl.length ≤ 1048576) (h1 : HeadsAt W b1 0 l) (h2 : HeadsAt W b2 0 l) (k1 : BMine W d1 bl) (k2 : BMine W d2 bl) :
    Calls Tryz.prog 57 #[.agg #[.int .i64 s, .slice (some ⟨b1, 0, none⟩) l.length l.length, .slice (some ⟨d1, 0, none⟩) bl.length bl.length], .agg #[.int .i64 s, .slice (some ⟨b2, 0, none⟩) l.length l.length, .slice (some ⟨d2, 0, none⟩) bl.length bl.length]] W fun e w' => e = .returned (.bool true) ∧ Below W.heap.size W w' := by
  obtain ⟨V, hV⟩ : ∃ V, V = (W.alloc (.cells #[.int .i64 s, .slice (some ⟨b1, 0, none⟩) l.length l.length, .slice (some ⟨d1, 0, none⟩) bl.length bl.length] 32)).alloc (.cells #[.int .i64 s, .slice (some ⟨b2, 0, none⟩) l.length l.length, .slice (some ⟨d2, 0, none⟩) bl.length bl.length] 32) := ⟨_, rfl⟩
  have HV : Hid (V = (W.alloc (.cells #[.int .i64 s, .slice (some ⟨b1, 0, none⟩) l.length l.length, .slice (some ⟨d1, 0, none⟩) bl.length bl.length] 32)).alloc (.cells #[.int .i64 s, .slice (some ⟨b2, 0, none⟩) l.length l.length, .slice (some ⟨d2, 0, none⟩) bl.length bl.length] 32)) := hV
  have bW : Below W.heap.size W V := by rw [hV]; exact ((Below.refl _ _).alloc (Nat.le_refl _) _).alloc (by simp) _
  have t2 : Three V (W.heap.size + 1) (.int .i64 s) (.slice (some ⟨b2, 0, none⟩) l.length l.length) (.slice (some ⟨d2, 0, none⟩) bl.length bl.length) := by
    rw [hV]
    have := Three.new (W.alloc (.cells #[.int .i64 s, .slice (some ⟨b1, 0, none⟩) l.length l.length, .slice (some ⟨d1, 0, none⟩) bl.length bl.length] 32)) (.int .i64 s) (.slice (some ⟨b2, 0, none⟩) l.length l.length) (.slice (some ⟨d2, 0, none⟩) bl.length bl.length) 32
    simpa using this
  have t1 : Three V W.heap.size (.int .i64 s) (.slice (some ⟨b1, 0, none⟩) l.length l.length) (.slice (some ⟨d1, 0, none⟩) bl.length bl.length) := by
    rw [hV]
    exact (Three.new W (.int .i64 s) (.slice (some ⟨b1, 0, none⟩) l.length l.length) (.slice (some ⟨d1, 0, none⟩) bl.length bl.length) 32).keep ((Below.refl _ _).alloc (Nat.le_refl _) _)
  have C := eqHeaderS_same V b1 0 b2 0 l.length l.length l hl (h1.keep bW) (h2.keep bW)
  have K : Hid (Below W.heap.size W V ∧ Three V W.heap.size (.int .i64 s) (.slice (some ⟨b1, 0, none⟩) l.length l.length) (.slice (some ⟨d1, 0, none⟩) bl.length bl.length) ∧ Three V (W.heap.size + 1) (.int .i64 s) (.slice (some ⟨b2, 0, none⟩) l.length l.length) (.slice (some ⟨d2, 0, none⟩) bl.length bl.length)) := ⟨bW, t1, t2⟩
  have HC : Hid (∀ X, Below W.heap.size W X → Calls Tryz.prog 45 #[.slice (some ⟨d1, 0, none⟩) bl.length bl.length, .slice (some ⟨d2, 0, none⟩) bl.length bl.length] X fun e w' => e = .returned (.bool true) ∧ Below X.heap.size X w') := fun X hb => eqByteS_same X _ _ _ _ bl hbl (k1.keep hb).in (k2.keep hb).in
  clear hV bW h1 h2 k1 k2 t1 t2
  generalize l.length = n at *
  generalize bl.length = bn at *
  go_enter Tryz.func57, Tryz.ntmps57
  go_wp2_with fail
  rw [← HV.out]
  refine C.mono ?_
  rintro e w1 ⟨rfl, hb1⟩
  have HB1 : Hid (Below W.heap.size W w1) := K.out.1.trans (hb1.mono K.out.1.size)
  have p2 := (K.out.2.1.keep hb1).c2
  have q2 := (K.out.2.2.keep hb1).c2
  have C2 := HC.out w1 HB1.out
  clear hb1 C K HV HC
  go_wp2_with fail
  refine C2.mono ?_
  rintro e w2 ⟨rfl, hb2⟩
  have HB2 : Hid (Below W.heap.size W w2) := HB1.out.trans (hb2.mono HB1.out.size)
  clear hb2 C2 HB1 p2 q2
  go_wp2_with fail
  go_ret
  exact ⟨rfl, HB2.out⟩
end Go.Proofs.YtojcjpdgjohldaaGreatDoor
/-
  Responses marked.
-/
namespace Go.Proofs.YtojcjpdgjohldaaGreatDoor
open Go.ChangeShapes Go.WideShapes Go.ChangeAt Go.RowKit
theorem Three.out {v : Value} {W W' : World} {B : Nat} {v0 v1 v2 : Value} (h : Three W B v0 v1 v2) (k : OutV v W W') (hne : v.ownBlock ≠ some B) : Three W' B v0 v1 v2 :=
  ⟨by rw [k.cell B 0 h.lt hne]; exact h.c0, by rw [k.cell B 1 h.lt hne]; exact h.c1, by rw [k.cell B 2 h.lt hne]; exact h.c2, fun o => by rw [k.frozen B o h.lt hne]; exact h.fr o, Nat.lt_of_lt_of_le h.lt k.size⟩
theorem BMine.out {v : Value} {W W' : World} {B : Nat} {l : List UInt8} (h : BMine W B l) (k : OutV v W W') (hne : v.ownBlock ≠ some B) : BMine W' B l :=
  ⟨fun i r hr => by rw [k.cell B _ h.lt hne]; exact h.at0 i r hr, fun o ho => by rw [k.frozen B o h.lt hne]; exact h.free o ho, Nat.lt_of_lt_of_le h.lt k.size⟩
set_option maxHeartbeats 2000000 in
theorem markResponse_any (W : World) (s : Int) (B D base : Nat) (l : List Hdr) (bl : List UInt8) (hl : l.length ≤ 1048576) (hbl : bl.length ≤ 1048576) (hq : QMine W B l) (hd : BMine W D bl) (hb : base ≤ B) (hbd : base ≤ D) (hne : B ≠ D) (hbW : base ≤ W.heap.size) :
    ∃ q : Int, ¬ q < 0 ∧ Calls Tryz.prog 58 #[.agg #[.int .i64 s, .slice (some ⟨B, 0, none⟩) l.length l.length, .slice (some ⟨D, 0, none⟩) bl.length bl.length], .int .i64 1] W fun e w' => e = .returned (.int .i64 q) ∧ (∃ w1, OutV (.slice (some ⟨B, 0, none⟩) l.length l.length) W w1 ∧ OutV (.slice (some ⟨D, 0, none⟩) bl.length bl.length) w1 w' ∧ Below base W w1 ∧ Below base w1 w') := by
  obtain ⟨V, hV⟩ : ∃ V, V = W.alloc (.cells #[.int .i64 s, .slice (some ⟨B, 0, none⟩) l.length l.length, .slice (some ⟨D, 0, none⟩) bl.length bl.length] 32) := ⟨_, rfl⟩
  have HV : Hid (V = W.alloc (.cells #[.int .i64 s, .slice (some ⟨B, 0, none⟩) l.length l.length, .slice (some ⟨D, 0, none⟩) bl.length bl.length] 32)) := hV
  have bV : Below W.heap.size W V := by rw [hV]; exact (Below.refl _ _).alloc (Nat.le_refl _) _
  have tV : Three V W.heap.size (.int .i64 s) (.slice (some ⟨B, 0, none⟩) l.length l.length) (.slice (some ⟨D, 0, none⟩) bl.length bl.length) := by rw [hV]; exact Three.new _ _ _ _ _
  have hq' := hq.keep bV
  have C : Calls Tryz.prog 102 #[.slice (some ⟨B, 0, none⟩) l.length l.length, .int .i64 1] V fun e w' => e = .returned (.int .i64 ((1 + 2 * l.length : Nat) : Int)) ∧ HAV (.slice (some ⟨B, 0, none⟩) l.length l.length) V w' ∧ Below base V w' :=
    (markHeaderS_lv V (.slice (some ⟨B, 0, none⟩) l.length l.length) l hl (.inr ⟨B, _, rfl, hq'.lt, hq'.at0, hq'.free⟩) base (fun q hq => by simp only [Value.ownBlock, Option.some.injEq] at hq; omega) (by have := hq'.lt; omega)).mono fun _ _ ⟨h1, _, h3, h4⟩ => ⟨h1, h3, h4⟩
  refine ⟨((1 + 2 * l.length + bl.length : Nat) : Int), by omega, ?_⟩
  have hB := hq.lt
  have hD := hd.lt
  have K : Hid (Below W.heap.size W V ∧ base ≤ W.heap.size ∧ Three V W.heap.size (.int .i64 s) (.slice (some ⟨B, 0, none⟩) l.length l.length) (.slice (some ⟨D, 0, none⟩) bl.length bl.length) ∧ BMine V D bl) := ⟨bV, hbW, tV, hd.keep bV⟩
  have HX : Hid (∀ X, BMine X D bl → Calls Tryz.prog 46 #[.slice (some ⟨D, 0, none⟩) bl.length bl.length, .int .i64 ((1 + 2 * l.length : Nat) : Int)] X fun e w' => e = .returned (.int .i64 ((1 + 2 * l.length + bl.length : Nat) : Int)) ∧ (MarkB w' (.slice (some ⟨D, 0, none⟩) bl.length bl.length) (1 + 2 * l.length) bl.length ∧ BAV (.slice (some ⟨D, 0, none⟩) bl.length bl.length) X w' ∧ Below base X w')) := fun X hm => markByteS_row X D bl.length bl.length (1 + 2 * l.length) base hbl (by omega) hbd hm.lt (fun j hj => by
      have := hm.at0 j bl[j] (List.getElem?_eq_getElem hj)
      rw [Nat.zero_add] at this
      exact ⟨⟨_, this⟩, hm.free j hj⟩)
  clear bV hV hq hq' tV hd
  generalize ((1 + 2 * l.length : Nat) : Int) = q1 at *
  obtain ⟨q2, hq2⟩ : ∃ q2 : Int, q2 = ((1 + 2 * l.length + bl.length : Nat) : Int) := ⟨_, rfl⟩
  have HQ2 : Hid (q2 = ((1 + 2 * l.length + bl.length : Nat) : Int)) := hq2
  rw [← hq2] at HX
  clear hq2
  generalize l.length = n at *
  go_enter Tryz.func58, Tryz.ntmps58
  go_wp2_with fail
  rw [← HV.out]
  refine C.mono ?_
  rintro e w1 ⟨rfl, hav, hb1⟩
  have o1 : OutV (.slice (some ⟨B, 0, none⟩) n n) V w1 := ⟨hav.size, hav.cell, hav.frozen⟩
  have t1 := K.out.2.2.1.out o1 (fun e => by simp only [Value.ownBlock, Option.some.injEq] at e; omega)
  have m1 := K.out.2.2.2.out o1 (fun e => by simp only [Value.ownBlock, Option.some.injEq] at e; omega)
  have K1 : Hid (OutV (.slice (some ⟨B, 0, none⟩) n n) W w1 ∧ Below base W w1) := ⟨⟨Nat.le_trans K.out.1.size hav.size, fun b o hb0 hne => by rw [hav.cell b o (Nat.lt_of_lt_of_le hb0 K.out.1.size) hne, K.out.1.cell (p := ⟨b, o, none⟩) hb0], fun b o hb0 hne => by rw [hav.frozen b o (Nat.lt_of_lt_of_le hb0 K.out.1.size) hne, K.out.1.frozen (p := ⟨b, o, none⟩) hb0]⟩, (K.out.1.mono K.out.2.1).trans hb1⟩
  have c2 := t1.c2
  have C2 := HX.out w1 m1
  clear hav hb1 C HV K o1 t1 m1 HX
  generalize hbn : bl.length = bn at *
  have HBN : Hid (bl.length = bn) := hbn
  clear hbn
  go_wp2_with fail
  refine C2.mono ?_
  rintro e w2 ⟨rfl, _, hav2, hb2⟩
  have HF : Hid (∃ w1, OutV (.slice (some ⟨B, 0, none⟩) n n) W w1 ∧ OutV (.slice (some ⟨D, 0, none⟩) bn bn) w1 w2 ∧ Below base W w1 ∧ Below base w1 w2) := ⟨w1, K1.out.1, ⟨by rw [hav2.size]; exact Nat.le_refl _, hav2.cell, fun b o _ _ => hav2.frozen b o⟩, K1.out.2, hb2⟩
  clear hav2 hb2 C2 K1 c2
  go_wp2_with fail
  go_ret
  exact ⟨ret_int (by rw [HQ2.out, HBN.out]), by rw [HBN.out]; exact HF.out⟩
end Go.Proofs.YtojcjpdgjohldaaGreatDoor
/-
  Requests and responses, plainly: their faults. No Go in sight.
-/
namespace Go.Proofs.YtojcjpdgjohldaaGreatDoor
def allP (p : Int → Bool) (l : List UInt8) : Bool := l.all fun c => p (c.toNat : Int)
theorem allP_snoc (p : Int → Bool) (l : List UInt8) (c : UInt8) : allP p (l ++ [c]) = (allP p l && p (c.toNat : Int)) := by simp [allP]
theorem allP_of_take (p : Int → Bool) (l : List UInt8) (k : Nat) (h : allP p (l.take k) = false) : allP p l = false := by
  have e := List.take_append_drop k l
  rw [← e]
  simp only [allP] at h ⊢
  rw [List.all_append, h, Bool.false_and]
theorem allP_not (p : Int → Bool) (s : ByteArray) (k : Nat) (h : k < s.size) (hd : p (s[k].toNat : Int) = false) : allP p s.data.toList = false := by
  refine allP_of_take p _ (k + 1) ?_
  rw [take_snoc s k h, allP_snoc, hd, Bool.and_false]
theorem allP_mem {p : Int → Bool} {l : List UInt8} (h : allP p l = true) : ∀ c ∈ l, p (c.toNat : Int) = true := by
  simpa [allP] using h
theorem allP_of_mem {p : Int → Bool} {l : List UInt8} (h : ∀ c ∈ l, p (c.toNat : Int) = true) : allP p l = true := by
  simpa [allP] using h
def hostI (c : Int) : Bool := (decide (97 ≤ c) && decide (c ≤ 122)) || (decide (65 ≤ c) && decide (c ≤ 90)) || (decide (48 ≤ c) && decide (c ≤ 57)) || decide (c = 46) || decide (c = 45)
theorem hostI_big (c : Int) (h : 128 ≤ c) : hostI c = false := by
  simp [hostI]; omega
def markI (c : Nat) : Bool := [47, 63, 61, 38, 58, 64, 44, 59, 40, 41].contains c
def pathI (c : Int) : Bool := markI c.toNat || wordI c
theorem pathI_big (c : Int) (h : 128 ≤ c) : pathI c = false := by
  have e : markI c.toNat = false := by
    have : 128 ≤ c.toNat := by omega
    simp [markI]; omega
  rw [pathI, e, wordI_big c h]; rfl
def hostS (s : ByteArray) : Bool := decide (1 ≤ s.size) && decide (s.size ≤ 60) && allP hostI s.data.toList
theorem hostS_short (s : ByteArray) (h : s.size < 1) : hostS s = false := by simp [hostS]; omega
theorem hostS_long (s : ByteArray) (h : 60 < s.size) : hostS s = false := by simp [hostS]; omega
theorem hostS_mid (s : ByteArray) (h1 : 1 ≤ s.size) (h2 : s.size ≤ 60) : hostS s = allP hostI s.data.toList := by simp [hostS, h1, h2]
def pathS (s : ByteArray) : Bool := decide (s.data.toList.head? = some 47) && decide (s.size ≤ 100) && allP pathI s.data.toList
theorem pathS_first (s : ByteArray) (h : ¬ s.data.toList.head? = some 47) : pathS s = false := by simp [pathS, h]
theorem pathS_long (s : ByteArray) (h : 100 < s.size) : pathS s = false := by
  have : ¬ s.size ≤ 100 := by omega
  simp [pathS, this]
theorem pathS_mid (s : ByteArray) (h1 : s.data.toList.head? = some 47) (h2 : s.size ≤ 100) : pathS s = allP pathI s.data.toList := by simp [pathS, h1, h2]
theorem head_get (s : ByteArray) (h : 0 < s.size) : s.data.toList.head? = some s[0] := by
  rw [List.head?_eq_getElem?, List.getElem?_eq_getElem (by simpa using h)]; rfl
theorem head_none (s : ByteArray) (h : s.size < 1) : s.data.toList.head? = none := by
  have : s.data.toList = [] := List.eq_nil_of_length_eq_zero (by rw [Array.length_toList]; exact Nat.lt_one_iff.1 h)
  rw [this]; rfl
def getT : ByteArray := ⟨#[71, 69, 84]⟩
def headT : ByteArray := ⟨#[72, 69, 65, 68]⟩
def hostN : ByteArray := ⟨#[104, 111, 115, 116]⟩
def methS (m : ByteArray) : Bool := decide (m = getT) || decide (m = headT)
def lineS (m h p : ByteArray) : Bool := methS m && hostS h && pathS p
def restC (l : List Hdr) : Int := if headsC l = 0 then (if valsOf hostN l = [] then (if 20 ≤ l.length then 2 else 0) else 6) else headsC l
def reqC (m h p : ByteArray) (l : List Hdr) : Int := if lineS m h p = true then restC l else 5
theorem reqC_bad {m h p : ByteArray} {l : List Hdr} (c : lineS m h p = false) : reqC m h p l = 5 := by rw [reqC, if_neg (by rw [c]; decide)]
theorem reqC_ok {m h p : ByteArray} {l : List Hdr} (c : lineS m h p = true) : reqC m h p l = restC l := by rw [reqC, if_pos c]
theorem restC_heads {l : List Hdr} (h : headsC l ≠ 0) : restC l = headsC l := by rw [restC, if_neg h]
theorem restC_host {l : List Hdr} (h : headsC l = 0) (hv : valsOf hostN l ≠ []) : restC l = 6 := by rw [restC, if_pos h, if_neg hv]
theorem restC_many {l : List Hdr} (h : headsC l = 0) (hv : valsOf hostN l = []) (hn : 20 ≤ l.length) : restC l = 2 := by rw [restC, if_pos h, if_pos hv, if_pos hn]
theorem restC_ok {l : List Hdr} (h : headsC l = 0) (hv : valsOf hostN l = []) (hn : ¬ 20 ≤ l.length) : restC l = 0 := by rw [restC, if_pos h, if_pos hv, if_neg hn]
theorem headsC_codes (l : List Hdr) : headsC l = 0 ∨ headsC l = 2 ∨ headsC l = 5 := by
  have h1 : ∀ r, faultH r = 0 ∨ faultH r = 2 ∨ faultH r = 5 := fun r => by
    unfold faultH
    repeat' split
    all_goals simp
  have h2 : ∀ l, faultHL l = 0 ∨ faultHL l = 2 ∨ faultHL l = 5 := fun l => by
    induction l with
    | nil => exact .inl rfl
    | cons r l ih =>
      by_cases c : faultH r = 0
      · rw [faultHL_ok c]; exact ih
      · rw [faultHL_bad c]; exact h1 r
  by_cases c : 20 < l.length
  · rw [headsC_many c]; simp
  · rw [headsC_few c]; exact h2 l
theorem restC_codes (l : List Hdr) : restC l = 0 ∨ restC l = 2 ∨ restC l = 5 ∨ restC l = 6 := by
  have := headsC_codes l
  unfold restC
  repeat' split
  all_goals omega
theorem reqC_codes (m h p : ByteArray) (l : List Hdr) : reqC m h p l = 0 ∨ reqC m h p l = 2 ∨ reqC m h p l = 5 ∨ reqC m h p l = 6 := by
  have := restC_codes l
  unfold reqC
  split <;> omega
/-- A request that has no fault. -/
theorem reqC_zero {m h p : ByteArray} {l : List Hdr} (c : reqC m h p l = 0) : lineS m h p = true ∧ headsC l = 0 ∧ valsOf hostN l = [] ∧ l.length < 20 := by
  cases hl : lineS m h p
  · rw [reqC_bad hl] at c; omega
  rw [reqC_ok hl] at c
  by_cases c1 : headsC l = 0
  · by_cases c2 : valsOf hostN l = []
    · by_cases c3 : 20 ≤ l.length
      · rw [restC_many c1 c2 c3] at c; omega
      · exact ⟨rfl, c1, c2, by omega⟩
    · rw [restC_host c1 c2] at c; omega
  · rw [restC_heads c1] at c; exact absurd c c1
theorem lineS_true {m h p : ByteArray} (c : lineS m h p = true) : methS m = true ∧ hostS h = true ∧ pathS p = true := by
  simp only [lineS, Bool.and_eq_true] at c; exact ⟨c.1.1, c.1.2, c.2⟩
def respC (s : Int) (l : List Hdr) (n : Nat) : Int := if s < 200 ∨ 599 < s then 3 else if headsC l = 0 then (if 2000 < n then 2 else 0) else headsC l
theorem respC_range {s : Int} {l : List Hdr} {n : Nat} (h : s < 200 ∨ 599 < s) : respC s l n = 3 := by rw [respC, if_pos h]
theorem respC_heads {s : Int} {l : List Hdr} {n : Nat} (h : ¬ (s < 200 ∨ 599 < s)) (h1 : headsC l ≠ 0) : respC s l n = headsC l := by rw [respC, if_neg h, if_neg h1]
theorem respC_many {s : Int} {l : List Hdr} {n : Nat} (h : ¬ (s < 200 ∨ 599 < s)) (h1 : headsC l = 0) (h2 : 2000 < n) : respC s l n = 2 := by rw [respC, if_neg h, if_pos h1, if_pos h2]
theorem respC_ok {s : Int} {l : List Hdr} {n : Nat} (h : ¬ (s < 200 ∨ 599 < s)) (h1 : headsC l = 0) (h2 : ¬ 2000 < n) : respC s l n = 0 := by rw [respC, if_neg h, if_pos h1, if_neg h2]
theorem respC_codes (s : Int) (l : List Hdr) (n : Nat) : respC s l n = 0 ∨ respC s l n = 2 ∨ respC s l n = 3 ∨ respC s l n = 5 := by
  have := headsC_codes l
  unfold respC
  repeat' split
  all_goals omega
theorem respC_zero {s : Int} {l : List Hdr} {n : Nat} (c : respC s l n = 0) : 200 ≤ s ∧ s ≤ 599 ∧ headsC l = 0 ∧ n ≤ 2000 := by
  by_cases c1 : s < 200 ∨ 599 < s
  · rw [respC_range c1] at c; omega
  by_cases c2 : headsC l = 0
  · by_cases c3 : 2000 < n
    · rw [respC_many c1 c2 c3] at c; omega
    · exact ⟨by omega, by omega, c2, by omega⟩
  · rw [respC_heads c1 c2] at c; exact absurd c c2
end Go.Proofs.YtojcjpdgjohldaaGreatDoor
/-
  What JoinHeader and its model answer.
-/
namespace Go.Proofs.YtojcjpdgjohldaaGreatDoor
open Go.ChangeShapes Go.WideShapes Go.ChangeAt Go.RowKit Go.Sort
def anyV (vs : List ByteArray) : Bool := !vs.isEmpty
theorem anyV_snoc (vs : List ByteArray) (v : ByteArray) : anyV (vs ++ [v]) = true := by simp [anyV]
theorem hret_sb {a b : ByteArray} {c d : Bool} (h1 : a = b) (h2 : c = d) : Ending.returned (.tuple #[.string a, .bool c]) = .returned (.tuple #[.string b, .bool d]) := by rw [h1, h2]
set_option maxRecDepth 100000 in
set_option maxHeartbeats 8000000 in
theorem l4Join_any (w : World) (a : Option Addr) (cap : Nat) (l : List Hdr) (name : ByteArray) (h20 : l.length ≤ 20) (hz : ∀ (i : Nat) r, l[i]? = some r → r.name.size ≤ 64 ∧ r.value.size ≤ 200) (hnm : name.size ≤ 64) (hi : HdsIn w a l) :
    Calls Tryz.prog 70 #[.slice a l.length cap, .string name] w fun e w' => e = .returned (.tuple #[.string ⟨(hjoinL (valsOf (lowS name) l)).toArray⟩, .bool (anyV (valsOf (lowS name) l))]) ∧ Below w.heap.size w w' := by
  have HI : Hid (HdsIn w a l) := hi
  have HZ : Hid (∀ (i : Nat) r, l[i]? = some r → r.name.size ≤ 64 ∧ r.value.size ≤ 200) := hz
  clear hi hz
  generalize hn : l.length = n at *
  have HN : Hid (l.length = n) := hn
  clear hn
  go_enter Tryz.func70, Tryz.ntmps70
  go_wp2_with fail
  go_loopw [6, 7, 8] (fun v f i wr => ∃ (k : Nat) (o : ByteArray) (bf : Bool), k ≤ n ∧ i = .int .i64 k ∧ v = .string o ∧ f = .bool bf ∧ o.data.toList = hjoinL (valsOf (lowS name) (l.take k)) ∧ bf = anyV (valsOf (lowS name) (l.take k)) ∧ o.size ≤ k * 202 ∧ Below w.heap.size w wr) (fun _ _ i _ => n - (intOf i).toNat)
  case atStart => exact ⟨0, ⟨#[]⟩, false, Nat.zero_le _, rfl, rfl, rfl, rfl, rfl, Nat.zero_le _, Below.refl _ _⟩
  case round =>
    obtain ⟨k, o, bf, hk, rfl, rfl, rfl, ho, hbf, hos, hb⟩ := hrel
    have HO : Hid (o.data.toList = hjoinL (valsOf (lowS name) (l.take k))) := ho
    have HBF : Hid (bf = anyV (valsOf (lowS name) (l.take k))) := hbf
    clear ho hbf
    by_cases hlt : k < n
    · obtain ⟨r, hr⟩ : ∃ r, l[k]? = some r := ⟨l[k]'(by have := HN.out; omega), List.getElem?_eq_getElem _⟩
      obtain ⟨b, off, rfl, hat⟩ := HI.out.ok hr
      obtain ⟨p1, p3⟩ := (hat.keep hb) k r hr
      obtain ⟨z1, z2⟩ := HZ.out k r hr
      have HK : Hid (l.take (k + 1) = l.take k ++ [r]) := take_hdr hr
      have gk : (k : Int) < n := by omega
      clear hr hat HI HZ
      have KY := @valsOf_yes (lowS name) r (l.take k)
      have KN := @valsOf_no (lowS name) r (l.take k)
      obtain ⟨rn, rv⟩ := r
      simp only at p1 p3 z1 z2 KY KN
      have SA := fun w => l4Alike_any rn name w (by omega) (by omega)
      by_cases he : lowS rn = lowS name
      · have HX : Hid (valsOf (lowS name) (l.take (k + 1)) = valsOf (lowS name) (l.take k) ++ [rv]) := by show _ = _; rw [HK.out]; exact KY he
        have HSA : Hid (∀ w, Calls Tryz.prog 119 #[.string rn, .string name] w fun e w' => e = .returned (.bool true) ∧ Below w.heap.size w w') := by
          rw [show decide (lowS rn = lowS name) = true from by simpa using he] at SA
          exact SA
        have HY : Hid (anyV (valsOf (lowS name) (l.take (k + 1))) = true) := by show _ = _; rw [HX.out]; exact anyV_snoc _ _
        clear SA KY KN HK he
        cases bf
        · have HV : Hid (valsOf (lowS name) (l.take k) = []) := by
            show _ = _
            have := HBF.out
            simpa [anyV] using this.symm
          have HT : Hid ((o ++ rv : ByteArray).data.toList = hjoinL (valsOf (lowS name) (l.take (k + 1)))) := by
            show _ = _
            rw [HX.out, hjoinL_snoc, happ_list, HO.out, if_pos HV.out, List.append_nil]
          have HU : Hid ((o ++ rv : ByteArray).size ≤ (k + 1) * 202) := by
            show _ ≤ _
            rw [ByteArray.size_append]; omega
          have hoz : o.size ≤ 5000 := by omega
          clear HX HV HO HBF
          go_wp2_with fail
          refine (HSA.out _).mono ?_
          rintro e w2 ⟨rfl, hb2⟩
          have HB2 : Hid (Below w.heap.size w w2) := hb.trans (hb2.mono hb.size)
          have p1 := hkeep hb2 p1
          have p3 := hkeep hb2 p3
          clear hb2 hb
          go_wp2_with fail
          go_roundw
          case rel => exact ⟨k + 1, o ++ rv, true, by omega, by go_num, rfl, rfl, HT.out, HY.out.symm, HU.out, HB2.out⟩
          case measure => simp [intOf]; omega
        · have HV : Hid (¬ valsOf (lowS name) (l.take k) = []) := by
            have := HBF.out
            intro e
            rw [e] at this
            cases this
          have HT : Hid ((o ++ ⟨#[44, 32]⟩ ++ rv : ByteArray).data.toList = hjoinL (valsOf (lowS name) (l.take (k + 1)))) := by
            show _ = _
            rw [HX.out, hjoinL_snoc, happ_list, happ_list, HO.out, if_neg HV.out]
          have HU : Hid ((o ++ ⟨#[44, 32]⟩ ++ rv : ByteArray).size ≤ (k + 1) * 202) := by
            show _ ≤ _
            rw [ByteArray.size_append, ByteArray.size_append, show (⟨#[44, 32]⟩ : ByteArray).size = 2 from rfl]; omega
          have hoz : o.size ≤ 5000 := by omega
          clear HX HV HO HBF
          go_wp2_with fail
          refine (HSA.out _).mono ?_
          rintro e w2 ⟨rfl, hb2⟩
          have HB2 : Hid (Below w.heap.size w w2) := hb.trans (hb2.mono hb.size)
          have p1 := hkeep hb2 p1
          have p3 := hkeep hb2 p3
          clear hb2 hb
          go_wp2_with fail
          go_roundw
          case rel => exact ⟨k + 1, o ++ ⟨#[44, 32]⟩ ++ rv, true, by omega, by go_num, rfl, rfl, HT.out, HY.out.symm, HU.out, HB2.out⟩
          case measure => simp [intOf]; omega
      · have HX : Hid (valsOf (lowS name) (l.take (k + 1)) = valsOf (lowS name) (l.take k)) := by show _ = _; rw [HK.out]; exact KN he
        have HSA : Hid (∀ w, Calls Tryz.prog 119 #[.string rn, .string name] w fun e w' => e = .returned (.bool false) ∧ Below w.heap.size w w') := by
          rw [show decide (lowS rn = lowS name) = false from by simpa using he] at SA
          exact SA
        clear SA KY KN HK he
        go_wp2_with fail
        refine (HSA.out _).mono ?_
        rintro e w2 ⟨rfl, hb2⟩
        have HB2 : Hid (Below w.heap.size w w2) := hb.trans (hb2.mono hb.size)
        clear hb2 hb p1 p3
        go_wp2_with fail
        go_roundw
        case rel => exact ⟨k + 1, o, bf, by omega, by go_num, rfl, rfl, by rw [HX.out]; exact HO.out, by rw [HX.out]; exact HBF.out, by omega, HB2.out⟩
        case measure => simp [intOf]; omega
    · have ek : l.take k = l := List.take_of_length_le (by have := HN.out; omega)
      have HT : Hid ((⟨(hjoinL (valsOf (lowS name) l)).toArray⟩ : ByteArray) = o) := by
        show _ = _
        have := HO.out
        rw [ek] at this
        exact (hof_list this).symm
      have HF : Hid (anyV (valsOf (lowS name) l) = bf) := by
        have := HBF.out
        rw [ek] at this
        exact this.symm
      clear HO HBF ek
      go_wp2_with fail
      go_ret2
      exact ⟨hret_sb HT.out.symm HF.out.symm, hb⟩
end Go.Proofs.YtojcjpdgjohldaaGreatDoor
/-
  What the model's RequestFault answers.
-/
namespace Go.Proofs.YtojcjpdgjohldaaGreatDoor
open Go.ChangeShapes Go.WideShapes Go.ChangeAt Go.RowKit
def ltrI (c : Int) : Bool := (decide (97 ≤ c) && decide (c ≤ 122)) || (decide (65 ≤ c) && decide (c ≤ 90))
def digI (c : Int) : Bool := decide (48 ≤ c) && decide (c ≤ 57)
set_option maxHeartbeats 1000000 in
theorem l1Letter_any (c : Int) (w : World) :
    Calls Tryz.prog 115 #[.int .u8 c] w fun e w' => e = .returned (.bool (ltrI c)) ∧ w' = w := by
  have HE : Hid (ltrI c = ((decide (97 ≤ c) && decide (c ≤ 122)) || (decide (65 ≤ c) && decide (c ≤ 90)))) := rfl
  have KEY : Hid (∀ b : Bool, ltrI c = b → Ending.returned (.bool b) = .returned (.bool (ltrI c))) := fun b h => by rw [h]
  by_cases c3 : c < 65
  · have W : Hid (ltrI c = false) := by show _ = _; rw [HE.out]; simp; omega
    go_enter Tryz.func115, Tryz.ntmps115
    go_wp2
    go_ret
    exact ⟨KEY.out _ W.out, rfl⟩
  by_cases c4 : c ≤ 90
  · have W : Hid (ltrI c = true) := by show _ = _; rw [HE.out]; simp; omega
    have d1 : decide (c ≤ 90) = true := by simpa using c4
    go_enter Tryz.func115, Tryz.ntmps115
    go_wp2
    go_ret
    exact ⟨KEY.out _ W.out, rfl⟩
  have d4 : decide (c ≤ 90) = false := by simpa using c4
  by_cases c5 : c < 97
  · have W : Hid (ltrI c = false) := by show _ = _; rw [HE.out]; simp; omega
    go_enter Tryz.func115, Tryz.ntmps115
    go_wp2
    go_ret
    exact ⟨KEY.out _ W.out, rfl⟩
  by_cases c6 : c ≤ 122
  · have W : Hid (ltrI c = true) := by show _ = _; rw [HE.out]; simp; omega
    have d1 : decide (c ≤ 122) = true := by simpa using c6
    go_enter Tryz.func115, Tryz.ntmps115
    go_wp2
    go_ret
    exact ⟨KEY.out _ W.out, rfl⟩
  have d6 : decide (c ≤ 122) = false := by simpa using c6
  have W : Hid (ltrI c = false) := by show _ = _; rw [HE.out]; simp; omega
  go_enter Tryz.func115, Tryz.ntmps115
  go_wp2
  go_ret
  exact ⟨KEY.out _ W.out, rfl⟩
set_option maxHeartbeats 1000000 in
theorem l1Digit_any (c : Int) (w : World) :
    Calls Tryz.prog 116 #[.int .u8 c] w fun e w' => e = .returned (.bool (digI c)) ∧ w' = w := by
  have HE : Hid (digI c = (decide (48 ≤ c) && decide (c ≤ 57))) := rfl
  have KEY : Hid (∀ b : Bool, digI c = b → Ending.returned (.bool b) = .returned (.bool (digI c))) := fun b h => by rw [h]
  by_cases c3 : c < 48
  · have W : Hid (digI c = false) := by show _ = _; rw [HE.out]; simp; omega
    go_enter Tryz.func116, Tryz.ntmps116
    go_wp2
    go_ret
    exact ⟨KEY.out _ W.out, rfl⟩
  by_cases c4 : c ≤ 57
  · have W : Hid (digI c = true) := by show _ = _; rw [HE.out]; simp; omega
    have d1 : decide (c ≤ 57) = true := by simpa using c4
    go_enter Tryz.func116, Tryz.ntmps116
    go_wp2
    go_ret
    exact ⟨KEY.out _ W.out, rfl⟩
  have d4 : decide (c ≤ 57) = false := by simpa using c4
  have W : Hid (digI c = false) := by show _ = _; rw [HE.out]; simp; omega
  go_enter Tryz.func116, Tryz.ntmps116
  go_wp2
  go_ret
  exact ⟨KEY.out _ W.out, rfl⟩
theorem hostI_split (c : Int) : hostI c = (ltrI c || digI c || decide (c = 46) || decide (c = 45)) := rfl
set_option maxHeartbeats 4000000 in
theorem l5Host_mid (s : ByteArray) (w : World) (h1 : 1 ≤ s.size) (h2 : s.size ≤ 60) :
    Calls Tryz.prog 67 #[.string s] w fun e w' => e = .returned (.bool (allP hostI s.data.toList)) ∧ w' = w := by
  have g1 : ¬ (s.size : Int) < 1 := by omega
  have g2 : ¬ (60 : Int) < s.size := by omega
  go_enter Tryz.func67, Tryz.ntmps67
  go_wp2
  go_loop [3] (fun i => ∃ k : Nat, k ≤ s.size ∧ i = .int .i64 k ∧ allP hostI (s.data.toList.take k) = true) (fun i => s.size - (intOf i).toNat)
  case atStart => exact ⟨0, Nat.zero_le _, rfl, rfl⟩
  case round =>
    obtain ⟨k, hk, rfl, hall⟩ := hrel
    by_cases hlt : k < s.size
    · have HY : Hid (hostI (s[k].toNat : Int) = true → allP hostI (s.data.toList.take (k + 1)) = true) := fun hw => by
        rw [take_snoc s k hlt, allP_snoc, hall, hw]; rfl
      have HN : Hid (hostI (s[k].toNat : Int) = false → allP hostI s.data.toList = false) := allP_not hostI s k hlt
      have HI := hostI_split (s[k].toNat : Int)
      have CL := l1Letter_any (s[k].toNat : Int) w
      have CD := l1Digit_any (s[k].toNat : Int) w
      clear hall
      cases hl : ltrI (s[k].toNat : Int)
      · rw [hl] at CL HI
        cases hd : digI (s[k].toNat : Int)
        · rw [hd] at CD HI
          by_cases e1 : (s[k].toNat : Int) = 46
          · have HA : Hid (allP hostI (s.data.toList.take (k + 1)) = true) := HY.out (by rw [HI]; simp [e1])
            have n1 : ((s[k].toNat : Int) != 46) = false := by rw [e1]; rfl
            clear HY HN HI hl hd e1
            go_wp2_with (first | (go_at_call 115; refine CL.mono ?_; rintro e w' ⟨rfl, rfl⟩) | (go_at_call 116; refine CD.mono ?_; rintro e w' ⟨rfl, rfl⟩))
            go_round
            case rel => exact ⟨k + 1, by omega, by go_num, HA.out⟩
            case measure => simp [intOf]; omega
          · by_cases e2 : (s[k].toNat : Int) = 45
            · have HA : Hid (allP hostI (s.data.toList.take (k + 1)) = true) := HY.out (by rw [HI]; simp [e2])
              have n1 : ((s[k].toNat : Int) != 46) = true := by simpa using e1
              have n2 : ((s[k].toNat : Int) != 45) = false := by rw [e2]; rfl
              clear HY HN HI hl hd e1 e2
              go_wp2_with (first | (go_at_call 115; refine CL.mono ?_; rintro e w' ⟨rfl, rfl⟩) | (go_at_call 116; refine CD.mono ?_; rintro e w' ⟨rfl, rfl⟩))
              go_round
              case rel => exact ⟨k + 1, by omega, by go_num, HA.out⟩
              case measure => simp [intOf]; omega
            · have HA : Hid (allP hostI s.data.toList = false) := HN.out (by rw [HI]; simp [e1, e2])
              have n1 : ((s[k].toNat : Int) != 46) = true := by simpa using e1
              have n2 : ((s[k].toNat : Int) != 45) = true := by simpa using e2
              clear HY HN HI hl hd e1 e2
              go_wp2_with (first | (go_at_call 115; refine CL.mono ?_; rintro e w' ⟨rfl, rfl⟩) | (go_at_call 116; refine CD.mono ?_; rintro e w' ⟨rfl, rfl⟩))
              go_ret
              exact ⟨ret_bool HA.out.symm, rfl⟩
        · rw [hd] at CD HI
          have HA : Hid (allP hostI (s.data.toList.take (k + 1)) = true) := HY.out (by rw [HI]; rfl)
          clear HY HN HI hl hd
          go_wp2_with (first | (go_at_call 115; refine CL.mono ?_; rintro e w' ⟨rfl, rfl⟩) | (go_at_call 116; refine CD.mono ?_; rintro e w' ⟨rfl, rfl⟩))
          go_round
          case rel => exact ⟨k + 1, by omega, by go_num, HA.out⟩
          case measure => simp [intOf]; omega
      · rw [hl] at CL HI
        have HA : Hid (allP hostI (s.data.toList.take (k + 1)) = true) := HY.out (by rw [HI]; rfl)
        clear HY HN HI hl
        go_wp2_with (first | (go_at_call 115; refine CL.mono ?_; rintro e w' ⟨rfl, rfl⟩) | (go_at_call 116; refine CD.mono ?_; rintro e w' ⟨rfl, rfl⟩))
        go_round
        case rel => exact ⟨k + 1, by omega, by go_num, HA.out⟩
        case measure => simp [intOf]; omega
    · have ek : s.data.toList.take k = s.data.toList := List.take_of_length_le (by simp; omega)
      rw [ek] at hall
      have HN : Hid (allP hostI s.data.toList = true) := hall
      clear ek hall
      go_wp2
      go_ret
      exact ⟨ret_bool HN.out.symm, rfl⟩
set_option maxHeartbeats 1000000 in
theorem l5Host_any (s : ByteArray) (w : World) :
    Calls Tryz.prog 67 #[.string s] w fun e w' => e = .returned (.bool (hostS s)) ∧ w' = w := by
  by_cases c1 : s.size < 1
  · rw [hostS_short s c1]
    have hh : (s.size : Int) < 1 := by omega
    go_enter Tryz.func67, Tryz.ntmps67
    go_wp2
    go_ret
    exact ⟨rfl, rfl⟩
  by_cases c2 : 60 < s.size
  · rw [hostS_long s c2]
    have hh : (60 : Int) < s.size := by omega
    have h1 : ¬ (s.size : Int) < 1 := by omega
    go_enter Tryz.func67, Tryz.ntmps67
    go_wp2
    go_ret
    exact ⟨rfl, rfl⟩
  rw [hostS_mid s (by omega) (by omega)]
  exact l5Host_mid s w (by omega) (by omega)
set_option maxHeartbeats 1000000 in
theorem l5PathByte_else (c : Int) (w : World) (h0 : 0 ≤ c) (h1 : c < 256) (hm : markI c.toNat = false) :
    Calls Tryz.prog 117 #[.int .u8 c] w fun e w' => e = .returned (.bool (pathI c)) ∧ w' = w := by
  have HP : pathI c = wordI c := by rw [pathI, hm]; rfl
  rw [HP]
  clear HP
  obtain ⟨n, rfl⟩ := Int.eq_ofNat_of_zero_le h0
  simp only [Int.toNat_natCast, markI, List.contains_eq_mem, List.mem_cons, List.not_mem_nil, or_false, decide_eq_false_iff_not, not_or] at hm
  obtain ⟨s0, s1, s2, s3, s4, s5, s6, s7, s8, s9⟩ := hm
  have t0 : ((n : Int) == 47) = false := by simp; omega
  have t1 : ((n : Int) == 63) = false := by simp; omega
  have t2 : ((n : Int) == 61) = false := by simp; omega
  have t3 : ((n : Int) == 38) = false := by simp; omega
  have t4 : ((n : Int) == 58) = false := by simp; omega
  have t5 : ((n : Int) == 64) = false := by simp; omega
  have t6 : ((n : Int) == 44) = false := by simp; omega
  have t7 : ((n : Int) == 59) = false := by simp; omega
  have t8 : ((n : Int) == 40) = false := by simp; omega
  have t9 : ((n : Int) == 41) = false := by simp; omega
  clear s0 s1 s2 s3 s4 s5 s6 s7 s8 s9
  generalize (n : Int) = c at *
  have C := wordByte_any c w h0 h1
  go_enter Tryz.func117, Tryz.ntmps117
  go_wp2_with fail
  refine C.mono ?_
  rintro e w' ⟨rfl, rfl⟩
  go_wp2_with fail
  go_ret
  exact ⟨rfl, rfl⟩
set_option maxHeartbeats 400000 in
theorem l5PathByte_47 (w : World) :
    Calls Tryz.prog 117 #[.int .u8 47] w fun e w' => e = .returned (.bool (pathI 47)) ∧ w' = w := by
  have W : pathI 47 = true := by decide +kernel
  rw [W]
  clear W
  go_enter Tryz.func117, Tryz.ntmps117
  go_wp2_with fail
  go_ret
  exact ⟨rfl, rfl⟩
set_option maxHeartbeats 400000 in
theorem l5PathByte_63 (w : World) :
    Calls Tryz.prog 117 #[.int .u8 63] w fun e w' => e = .returned (.bool (pathI 63)) ∧ w' = w := by
  have W : pathI 63 = true := by decide +kernel
  rw [W]
  clear W
  go_enter Tryz.func117, Tryz.ntmps117
  go_wp2_with fail
  go_ret
  exact ⟨rfl, rfl⟩
set_option maxHeartbeats 400000 in
theorem l5PathByte_61 (w : World) :
    Calls Tryz.prog 117 #[.int .u8 61] w fun e w' => e = .returned (.bool (pathI 61)) ∧ w' = w := by
  have W : pathI 61 = true := by decide +kernel
  rw [W]
  clear W
  go_enter Tryz.func117, Tryz.ntmps117
  go_wp2_with fail
  go_ret
  exact ⟨rfl, rfl⟩
set_option maxHeartbeats 400000 in
theorem l5PathByte_38 (w : World) :
    Calls Tryz.prog 117 #[.int .u8 38] w fun e w' => e = .returned (.bool (pathI 38)) ∧ w' = w := by
  have W : pathI 38 = true := by decide +kernel
  rw [W]
  clear W
  go_enter Tryz.func117, Tryz.ntmps117
  go_wp2_with fail
  go_ret
  exact ⟨rfl, rfl⟩
set_option maxHeartbeats 400000 in
theorem l5PathByte_58 (w : World) :
    Calls Tryz.prog 117 #[.int .u8 58] w fun e w' => e = .returned (.bool (pathI 58)) ∧ w' = w := by
  have W : pathI 58 = true := by decide +kernel
  rw [W]
  clear W
  go_enter Tryz.func117, Tryz.ntmps117
  go_wp2_with fail
  go_ret
  exact ⟨rfl, rfl⟩
set_option maxHeartbeats 400000 in
theorem l5PathByte_64 (w : World) :
    Calls Tryz.prog 117 #[.int .u8 64] w fun e w' => e = .returned (.bool (pathI 64)) ∧ w' = w := by
  have W : pathI 64 = true := by decide +kernel
  rw [W]
  clear W
  go_enter Tryz.func117, Tryz.ntmps117
  go_wp2_with fail
  go_ret
  exact ⟨rfl, rfl⟩
set_option maxHeartbeats 400000 in
theorem l5PathByte_44 (w : World) :
    Calls Tryz.prog 117 #[.int .u8 44] w fun e w' => e = .returned (.bool (pathI 44)) ∧ w' = w := by
  have W : pathI 44 = true := by decide +kernel
  rw [W]
  clear W
  go_enter Tryz.func117, Tryz.ntmps117
  go_wp2_with fail
  go_ret
  exact ⟨rfl, rfl⟩
set_option maxHeartbeats 400000 in
theorem l5PathByte_59 (w : World) :
    Calls Tryz.prog 117 #[.int .u8 59] w fun e w' => e = .returned (.bool (pathI 59)) ∧ w' = w := by
  have W : pathI 59 = true := by decide +kernel
  rw [W]
  clear W
  go_enter Tryz.func117, Tryz.ntmps117
  go_wp2_with fail
  go_ret
  exact ⟨rfl, rfl⟩
set_option maxHeartbeats 400000 in
theorem l5PathByte_40 (w : World) :
    Calls Tryz.prog 117 #[.int .u8 40] w fun e w' => e = .returned (.bool (pathI 40)) ∧ w' = w := by
  have W : pathI 40 = true := by decide +kernel
  rw [W]
  clear W
  go_enter Tryz.func117, Tryz.ntmps117
  go_wp2_with fail
  go_ret
  exact ⟨rfl, rfl⟩
set_option maxHeartbeats 400000 in
theorem l5PathByte_41 (w : World) :
    Calls Tryz.prog 117 #[.int .u8 41] w fun e w' => e = .returned (.bool (pathI 41)) ∧ w' = w := by
  have W : pathI 41 = true := by decide +kernel
  rw [W]
  clear W
  go_enter Tryz.func117, Tryz.ntmps117
  go_wp2_with fail
  go_ret
  exact ⟨rfl, rfl⟩
theorem l5PathByte_any (c : Int) (w : World) (h0 : 0 ≤ c) (h1 : c < 256) :
    Calls Tryz.prog 117 #[.int .u8 c] w fun e w' => e = .returned (.bool (pathI c)) ∧ w' = w := by
  cases h : markI c.toNat
  · exact l5PathByte_else c w h0 h1 h
  · obtain ⟨n, rfl⟩ := Int.eq_ofNat_of_zero_le h0
    simp only [Int.toNat_natCast, markI, List.contains_eq_mem, List.mem_cons, List.not_mem_nil, or_false, decide_eq_true_eq] at h
    rcases h with rfl | rfl | rfl | rfl | rfl | rfl | rfl | rfl | rfl | rfl
    · exact l5PathByte_47 w
    · exact l5PathByte_63 w
    · exact l5PathByte_61 w
    · exact l5PathByte_38 w
    · exact l5PathByte_58 w
    · exact l5PathByte_64 w
    · exact l5PathByte_44 w
    · exact l5PathByte_59 w
    · exact l5PathByte_40 w
    · exact l5PathByte_41 w
set_option maxHeartbeats 2000000 in
theorem l5Path_mid (s : ByteArray) (w : World) (h0 : 0 < s.size) (hf : (s[0].toNat : Int) = 47) (h2 : s.size ≤ 100) :
    Calls Tryz.prog 68 #[.string s] w fun e w' => e = .returned (.bool (allP pathI s.data.toList)) ∧ w' = w := by
  have g1 : ¬ (s.size : Int) < 1 := by omega
  have g2 : ¬ (100 : Int) < s.size := by omega
  go_enter Tryz.func68, Tryz.ntmps68
  go_wp2
  clear hf
  go_loop [3] (fun i => ∃ k : Nat, k ≤ s.size ∧ i = .int .i64 k ∧ allP pathI (s.data.toList.take k) = true) (fun i => s.size - (intOf i).toNat)
  case atStart => exact ⟨0, Nat.zero_le _, rfl, rfl⟩
  case round =>
    obtain ⟨k, hk, rfl, hall⟩ := hrel
    by_cases hlt : k < s.size
    · have hb : ((s[k].toNat : Nat) : Int) < 256 := by have := s[k].toNat_lt; omega
      have C := l5PathByte_any (s[k].toNat : Int) w (by omega) hb
      cases hw : pathI (s[k].toNat : Int)
      · have HN : Hid (allP pathI s.data.toList = false) := allP_not pathI s k hlt hw
        rw [hw] at C
        clear hall hw
        go_wp2_with fail
        refine C.mono ?_
        rintro e w' ⟨rfl, rfl⟩
        go_wp2_with fail
        go_ret
        exact ⟨ret_bool HN.out.symm, rfl⟩
      · have HA : Hid (allP pathI (s.data.toList.take (k + 1)) = true) := by
          show _ = _
          rw [take_snoc s k hlt, allP_snoc, hall, hw]; rfl
        rw [hw] at C
        clear hall hw
        go_wp2_with fail
        refine C.mono ?_
        rintro e w' ⟨rfl, rfl⟩
        go_wp2_with fail
        go_round
        case rel => exact ⟨k + 1, by omega, by go_num, HA.out⟩
        case measure => simp [intOf]; omega
    · have ek : s.data.toList.take k = s.data.toList := List.take_of_length_le (by simp; omega)
      rw [ek] at hall
      have HN : Hid (allP pathI s.data.toList = true) := hall
      clear ek hall
      go_wp2
      go_ret
      exact ⟨ret_bool HN.out.symm, rfl⟩
set_option maxHeartbeats 1000000 in
theorem l5Path_any (s : ByteArray) (w : World) :
    Calls Tryz.prog 68 #[.string s] w fun e w' => e = .returned (.bool (pathS s)) ∧ w' = w := by
  by_cases c1 : s.size < 1
  · rw [pathS_first s (by rw [head_none s c1]; simp)]
    have hh : (s.size : Int) < 1 := by omega
    go_enter Tryz.func68, Tryz.ntmps68
    go_wp2
    go_ret
    exact ⟨rfl, rfl⟩
  have h1 : ¬ (s.size : Int) < 1 := by omega
  by_cases c2 : 100 < s.size
  · rw [pathS_long s c2]
    have hh : (100 : Int) < s.size := by omega
    go_enter Tryz.func68, Tryz.ntmps68
    go_wp2
    go_ret
    exact ⟨rfl, rfl⟩
  have g2 : ¬ (100 : Int) < s.size := by omega
  have hd := head_get s (by omega)
  have g0 : 0 < s.size := by omega
  by_cases c3 : (s[0].toNat : Int) = 47
  · have e3 : s[0] = 47 := UInt8.toNat_inj.1 (by simpa using (by omega : s[0].toNat = 47))
    rw [pathS_mid s (by rw [hd, e3]) (by omega)]
    exact l5Path_mid s w (by omega) c3 (by omega)
  · rw [pathS_first s (by rw [hd]; intro e; exact c3 (by rw [Option.some.inj e]; rfl))]
    have c3' : ((s[0].toNat : Int) == 47) = false := by simpa using c3
    clear hd
    go_enter Tryz.func68, Tryz.ntmps68
    go_wp2
    go_ret
    exact ⟨rfl, rfl⟩
end Go.Proofs.YtojcjpdgjohldaaGreatDoor
/-
  isHost and isPath: what they answer.
-/
namespace Go.Proofs.YtojcjpdgjohldaaGreatDoor
open Go.ChangeShapes Go.WideShapes Go.ChangeAt Go.RowKit
set_option maxHeartbeats 2000000 in
theorem isHostLetter_any (c : Int) (w : World) :
    Calls Tryz.prog 163 #[.int .i32 c] w fun e w' => e = .returned (.bool (hostI c)) ∧ w' = w := by
  have HE : Hid (hostI c = ((decide (97 ≤ c) && decide (c ≤ 122)) || (decide (65 ≤ c) && decide (c ≤ 90)) || (decide (48 ≤ c) && decide (c ≤ 57)) || decide (c = 46) || decide (c = 45))) := rfl
  have KEY : Hid (∀ b : Bool, hostI c = b → Ending.returned (.bool b) = .returned (.bool (hostI c))) := fun b h => by rw [h]
  by_cases e1 : c = 45
  · subst e1
    have W : Hid (hostI 45 = true) := by show _ = _; decide
    go_enter Tryz.func163, Tryz.ntmps163
    go_wp2
    go_ret
    exact ⟨KEY.out _ W.out, rfl⟩
  by_cases e2 : c = 46
  · subst e2
    have W : Hid (hostI 46 = true) := by show _ = _; decide
    go_enter Tryz.func163, Tryz.ntmps163
    go_wp2
    go_ret
    exact ⟨KEY.out _ W.out, rfl⟩
  have f1 : (c == 45) = false := by simpa using e1
  have f2 : (c == 46) = false := by simpa using e2
  by_cases c1 : c < 48
  · have W : Hid (hostI c = false) := by show _ = _; rw [HE.out]; simp; omega
    go_enter Tryz.func163, Tryz.ntmps163
    go_wp2
    go_ret
    exact ⟨KEY.out _ W.out, rfl⟩
  by_cases c2 : c ≤ 57
  · have W : Hid (hostI c = true) := by show _ = _; rw [HE.out]; simp; omega
    have d1 : decide (c ≤ 57) = true := by simpa using c2
    go_enter Tryz.func163, Tryz.ntmps163
    go_wp2
    go_ret
    exact ⟨KEY.out _ W.out, rfl⟩
  have d2 : decide (c ≤ 57) = false := by simpa using c2
  by_cases c3 : c < 65
  · have W : Hid (hostI c = false) := by show _ = _; rw [HE.out]; simp; omega
    go_enter Tryz.func163, Tryz.ntmps163
    go_wp2
    go_ret
    exact ⟨KEY.out _ W.out, rfl⟩
  by_cases c4 : c ≤ 90
  · have W : Hid (hostI c = true) := by show _ = _; rw [HE.out]; simp; omega
    have d1 : decide (c ≤ 90) = true := by simpa using c4
    go_enter Tryz.func163, Tryz.ntmps163
    go_wp2
    go_ret
    exact ⟨KEY.out _ W.out, rfl⟩
  have d4 : decide (c ≤ 90) = false := by simpa using c4
  by_cases c5 : c < 97
  · have W : Hid (hostI c = false) := by show _ = _; rw [HE.out]; simp; omega
    go_enter Tryz.func163, Tryz.ntmps163
    go_wp2
    go_ret
    exact ⟨KEY.out _ W.out, rfl⟩
  by_cases c6 : c ≤ 122
  · have W : Hid (hostI c = true) := by show _ = _; rw [HE.out]; simp; omega
    have d1 : decide (c ≤ 122) = true := by simpa using c6
    go_enter Tryz.func163, Tryz.ntmps163
    go_wp2
    go_ret
    exact ⟨KEY.out _ W.out, rfl⟩
  have d6 : decide (c ≤ 122) = false := by simpa using c6
  have W : Hid (hostI c = false) := by show _ = _; rw [HE.out]; simp; omega
  go_enter Tryz.func163, Tryz.ntmps163
  go_wp2
  go_ret
  exact ⟨KEY.out _ W.out, rfl⟩
theorem below_iter (w : World) (s : ByteArray) (pos : Nat) : Below w.heap.size w (w.iter s pos) := (Below.refl _ _).alloc (Nat.le_refl _) _
theorem rune_host (s : ByteArray) (pos : Nat) (h : pos < s.size) : hostI ((Utf8.decode s pos).1 : Int) = hostI (s[pos].toNat : Int) := by
  by_cases ha : (s[pos]'h).toNat < 128
  · rw [decode_ascii s pos h ha]
  · have := (decode_high s pos h (by omega)).1
    rw [hostI_big _ (by omega), hostI_big _ (by omega)]
theorem host_ascii {c : Nat} (h : hostI (c : Int) = true) : c < 128 := by
  by_cases k : c < 128
  · exact k
  · rw [hostI_big _ (by omega)] at h; cases h
set_option maxHeartbeats 4000000 in
set_option maxRecDepth 100000 in
theorem isHost_mid (s : ByteArray) (w : World) (h1 : 1 ≤ s.size) (h2 : s.size ≤ 60) :
    Calls Tryz.prog 121 #[.string s] w fun e w' => e = .returned (.bool (allP hostI s.data.toList)) ∧ Below w.heap.size w w' := by
  have g1 : ¬ (s.size : Int) < 1 := by omega
  have g2 : ¬ (60 : Int) < s.size := by omega
  go_enter Tryz.func121, Tryz.ntmps121
  go_wp2
  go_loopw [2] (fun b w' => ∃ pos : Nat, b = .bool false ∧ w' = w.iter s pos ∧ pos ≤ s.size ∧ allP hostI (s.data.toList.take pos) = true) (fun _ w' => s.size - w'.iterPos w.heap.size)
  case atStart => exact ⟨0, rfl, rfl, Nat.zero_le _, rfl⟩
  case round =>
    obtain ⟨pos, rfl, rfl, hp, hall⟩ := hrel
    by_cases hlt : pos < s.size
    · have hnx : ∀ ty, (Instr.next (.pointer (some ⟨w.heap.size, 0, none⟩)) true ty).run Tryz.prog (w.iter s pos) = _ := fun ty => run_next_any w s pos ty hlt
      have HR := rune_host s pos hlt
      have CL := fun W => isHostLetter_any ((Utf8.decode s pos).1 : Int) W
      cases hw : hostI (s[pos].toNat : Int)
      · have HN : Hid (allP hostI s.data.toList = false) := allP_not hostI s pos hlt hw
        rw [hw] at HR
        simp only [HR] at CL
        clear hall hw HR
        generalize Utf8.decode s pos = D at *
        go_wp2_with fail
        refine (CL _).mono ?_
        rintro e w' ⟨rfl, rfl⟩
        go_wp2_with fail
        go_ret
        exact ⟨ret_bool HN.out.symm, below_iter _ _ _⟩
      · have HA : Hid (allP hostI (s.data.toList.take (pos + 1)) = true) := by
          show _ = _
          rw [take_snoc s pos hlt, allP_snoc, hall, hw]; rfl
        have hd := decode_ascii s pos hlt (host_ascii hw)
        rw [hw] at HR
        simp only [HR] at CL
        rw [hd] at hnx CL
        clear hall hw HR hd
        simp only at hnx CL
        go_wp2_with fail
        refine (CL _).mono ?_
        rintro e w' ⟨rfl, rfl⟩
        go_wp2_with fail
        go_roundw
        case rel => exact ⟨pos + 1, rfl, rfl, by omega, HA.out⟩
        case measure => simp; omega
    · have hnx : ∀ ty, (Instr.next (.pointer (some ⟨w.heap.size, 0, none⟩)) true ty).run Tryz.prog (w.iter s pos) = _ := fun ty => run_next_end w s pos ty hlt
      have ek : s.data.toList.take pos = s.data.toList := List.take_of_length_le (by simp; omega)
      rw [ek] at hall
      have HN : Hid (allP hostI s.data.toList = true) := hall
      clear ek hall
      go_wp2
      go_ret
      exact ⟨ret_bool HN.out.symm, below_iter _ _ _⟩
set_option maxHeartbeats 1000000 in
theorem isHost_any (s : ByteArray) (w : World) :
    Calls Tryz.prog 121 #[.string s] w fun e w' => e = .returned (.bool (hostS s)) ∧ Below w.heap.size w w' := by
  by_cases c1 : s.size < 1
  · rw [hostS_short s c1]
    have hh : (s.size : Int) < 1 := by omega
    go_enter Tryz.func121, Tryz.ntmps121
    go_wp2
    go_ret
    exact ⟨rfl, Below.refl _ _⟩
  by_cases c2 : 60 < s.size
  · rw [hostS_long s c2]
    have hh : (60 : Int) < s.size := by omega
    have h1 : ¬ (s.size : Int) < 1 := by omega
    go_enter Tryz.func121, Tryz.ntmps121
    go_wp2
    go_ret
    exact ⟨rfl, Below.refl _ _⟩
  rw [hostS_mid s (by omega) (by omega)]
  exact isHost_mid s w (by omega) (by omega)
/-! ### the bytes of a path -/
set_option maxHeartbeats 1000000 in
theorem hasOnly_gen (p : Int → Bool) (hp : ∀ c, 128 ≤ c → p c = false) (s : ByteArray) (cs : Array Value) (w : World) (hs : s.size ≤ 1000) (hcs : ∀ i : Nat, i < 128 → cs[i]? = some (.bool (p (i : Int)))) :
    Calls Tryz.prog 133 #[.string s, .agg cs] w fun e w' => e = .returned (.bool (allP p s.data.toList)) ∧ Below w.heap.size w w' := by
  have hcell : ∀ i : Nat, i < 128 → (w.alloc (.cells cs 152)).cell? ⟨w.heap.size, i, none⟩ = some (.bool (p (i : Int))) := fun i hi => by
    rw [World.cell?_alloc_mark]; exact hcs i hi
  have HC : Hid (∀ i : Nat, i < 128 → (w.alloc (.cells cs 152)).cell? ⟨w.heap.size, i, none⟩ = some (.bool (p (i : Int)))) := hcell
  have HP : Hid (∀ c, 128 ≤ c → p c = false) := hp
  clear hcell hcs hp
  go_enter Tryz.func133, Tryz.ntmps133
  go_wp2
  go_loop [9] (fun i => ∃ k : Nat, k ≤ s.size ∧ i = .int .i64 k ∧ allP p (s.data.toList.take k) = true) (fun i => s.size - (intOf i).toNat)
  case atStart => exact ⟨0, Nat.zero_le _, rfl, rfl⟩
  case round =>
    obtain ⟨k, hk, rfl, hall⟩ := hrel
    by_cases hlt : k < s.size
    · have hb : ((s[k].toNat : Nat) : Int) < 256 := by have := s[k].toNat_lt; omega
      by_cases hbig : 128 ≤ (s[k].toNat : Int)
      · have HN : Hid (allP p s.data.toList = false) := allP_not p s k hlt (HP.out _ hbig)
        clear hall
        go_wp2
        go_ret
        exact ⟨ret_bool HN.out.symm, (Below.refl _ _).alloc (Nat.le_refl _) _⟩
      · have hc := HC.out s[k].toNat (by omega)
        cases hw : p (s[k].toNat : Int)
        · have HN : Hid (allP p s.data.toList = false) := allP_not p s k hlt hw
          rw [hw] at hc
          clear hall hw
          go_wp2
          go_ret
          exact ⟨ret_bool HN.out.symm, (Below.refl _ _).alloc (Nat.le_refl _) _⟩
        · have HA : Hid (allP p (s.data.toList.take (k + 1)) = true) := by
            show _ = _
            rw [take_snoc s k hlt, allP_snoc, hall, hw]; rfl
          rw [hw] at hc
          clear hall hw
          go_wp2
          go_round
          case rel => exact ⟨k + 1, by omega, by go_num, HA.out⟩
          case measure => simp [intOf]; omega
    · have ek : s.data.toList.take k = s.data.toList := List.take_of_length_le (by simp; omega)
      rw [ek] at hall
      have HN : Hid (allP p s.data.toList = true) := hall
      clear ek hall
      go_wp2
      go_ret
      exact ⟨ret_bool HN.out.symm, (Below.refl _ _).alloc (Nat.le_refl _) _⟩
end Go.Proofs.YtojcjpdgjohldaaGreatDoor
/-
  pathBytes: the word bytes and ten marks; isPath.
-/
namespace Go.Proofs.YtojcjpdgjohldaaGreatDoor
open Go.ChangeShapes Go.WideShapes Go.ChangeAt Go.RowKit
def marksS : ByteArray := ⟨#[47, 63, 61, 38, 58, 64, 44, 59, 40, 41]⟩
def marksN : List Nat := [47, 63, 61, 38, 58, 64, 44, 59, 40, 41]
def markAt (pos : Nat) : Nat := marksN.getD pos 0
theorem markAt_eq (pos : Nat) (h : pos < marksS.size) : (marksS[pos]'h).toNat = markAt pos := by
  have : pos < 10 := h
  match pos, this with
  | 0, _ | 1, _ | 2, _ | 3, _ | 4, _ | 5, _ | 6, _ | 7, _ | 8, _ | 9, _ => rfl
theorem markAt_lt (pos : Nat) : markAt pos < 128 := by
  by_cases h : pos < 10
  · match pos, h with
    | 0, _ | 1, _ | 2, _ | 3, _ | 4, _ | 5, _ | 6, _ | 7, _ | 8, _ | 9, _ => decide
  · unfold markAt
    rw [List.getD_eq_getElem?_getD, List.getElem?_eq_none (by simp [marksN]; omega)]
    decide
def pathAt (pos i : Nat) : Bool := (marksN.take pos).contains i || wordI (i : Int)
theorem pathAt_zero (i : Nat) : pathAt 0 i = wordI (i : Int) := rfl
theorem pathAt_end (i : Nat) : pathAt 10 i = pathI (i : Int) := rfl
theorem take_marks (pos i : Nat) (h : pos < 10) : (marksN.take (pos + 1)).contains i = ((marksN.take pos).contains i || i == markAt pos) := by
  have e : marksN.take (pos + 1) = marksN.take pos ++ [markAt pos] := by
    match pos, h with
    | 0, _ | 1, _ | 2, _ | 3, _ | 4, _ | 5, _ | 6, _ | 7, _ | 8, _ | 9, _ => rfl
  rw [e, Bool.eq_iff_iff]
  simp
theorem pathAt_same (pos : Nat) (h : pos < 10) : pathAt (pos + 1) (markAt pos) = true := by
  rw [pathAt, take_marks pos _ h]; simp
theorem pathAt_other (pos i : Nat) (h : pos < 10) (hi : i ≠ markAt pos) : pathAt (pos + 1) i = pathAt pos i := by
  rw [pathAt, take_marks pos _ h, beq_eq_false_iff_ne.2 hi, Bool.or_false]; rfl
structure PathW (w : World) (pos : Nat) (wr : World) : Prop where
  it : wr.heap[w.heap.size + 2]? = some (.stringIter marksS pos)
  b0 : wr.heap[w.heap.size]? = some (.cells Tryz.zeroCells152 152 (0, 0))
  b1 : ∃ cs, wr.heap[w.heap.size + 1]? = some (.cells cs 152 (0, 0)) ∧ cs.size = 128 ∧ ∀ i : Nat, i < 128 → cs[i]? = some (.bool (pathAt pos i))
  le : pos ≤ 10
  bel : Below w.heap.size w wr
theorem PathW.cell {w wr : World} {pos : Nat} (h : PathW w pos wr) (i : Nat) (hi : i < 128) : wr.cell? ⟨w.heap.size + 1, i, none⟩ = some (.bool (pathAt pos i)) ∧ wr.frozen? ⟨w.heap.size + 1, i, none⟩ = false := by
  obtain ⟨cs, h1, h2, h3⟩ := h.b1
  exact ⟨by simp [World.cell?, h1, h3 i hi], by simp [World.frozen?, h1]⟩
theorem PathW.next {w wr : World} {pos : Nat} (h : PathW w pos wr) (hp : pos < 10) : PathW w (pos + 1) ((wr.iterAt (w.heap.size + 2) marksS (pos + 1)).setCell ⟨w.heap.size + 1, markAt pos, none⟩ (.bool true)) := by
  obtain ⟨cs, h1, h2, h3⟩ := h.b1
  have o : ∀ k, k ≠ w.heap.size + 2 → (wr.iterAt (w.heap.size + 2) marksS (pos + 1)).heap[k]? = wr.heap[k]? := fun k hk => Lib.iterAt_other _ _ _ _ _ hk
  have h1' : (wr.iterAt (w.heap.size + 2) marksS (pos + 1)).heap[w.heap.size + 1]? = some (.cells cs 152 (0, 0)) := by rw [o _ (by omega)]; exact h1
  refine ⟨?_, ?_, ⟨_, heap_setCell_same _ _ _ _ _ _ h1', by simpa using h2, fun i hi => ?_⟩, by omega, ?_⟩
  · rw [heap_setCell_other _ _ _ _ (by simp)]; exact Lib.iterAt_heap _ _ _ _ _ h.it
  · rw [heap_setCell_other _ _ _ _ (by simp), o _ (by omega)]; exact h.b0
  · by_cases e : i = markAt pos
    · subst e
      rw [Array.getElem?_setIfInBounds_self_of_lt (by omega), pathAt_same pos hp]
    · rw [Array.getElem?_setIfInBounds_ne (by omega), h3 i hi, pathAt_other pos i hp e]
  · refine Below.setCell ?_ (by simp) _
    exact ⟨h.bel.os, h.bel.tape, h.bel.output, by simpa [World.iterAt] using h.bel.size, fun k hk => by rw [o k (by omega)]; exact h.bel.block k hk⟩
theorem zeroSet_size : (Tryz.zeroCells152).size = 128 := by kernel_rfl
theorem all_bools {cs : Array Value} {f : Nat → Bool} (hsz : cs.size = 128) (h : ∀ i : Nat, i < 128 → cs[i]? = some (.bool (f i))) : cs.all (·.oneCell') = true := by
  rw [Array.all_eq_true]
  intro i hi
  have e := h i (by omega)
  rw [Array.getElem?_eq_getElem hi] at e
  rw [Option.some.inj e]; rfl
theorem path_start {w : World} {cs : Array Value} (hsz : cs.size = 128) (hcs : ∀ i : Nat, i < 128 → cs[i]? = some (.bool (wordI (i : Int)))) :
    PathW w 0 ((((w.alloc (.cells Tryz.zeroCells152 152)).alloc (.cells Tryz.zeroCells152 152)).setRow (w.heap.size + 1) cs).iter marksS 0) := by
  have hz : ((w.alloc (.cells Tryz.zeroCells152 152)).alloc (.cells Tryz.zeroCells152 152)).heap.size = w.heap.size + 2 := by simp
  have h1 : ((w.alloc (.cells Tryz.zeroCells152 152)).alloc (.cells Tryz.zeroCells152 152)).heap[w.heap.size + 1]? = some (.cells Tryz.zeroCells152 152 (0, 0)) := by
    show ((w.heap.push _).push _)[w.heap.size + 1]? = _
    rw [Array.getElem?_push, if_pos (by simp)]
  have h0 : ((w.alloc (.cells Tryz.zeroCells152 152)).alloc (.cells Tryz.zeroCells152 152)).heap[w.heap.size]? = some (.cells Tryz.zeroCells152 152 (0, 0)) := by
    show ((w.heap.push _).push _)[w.heap.size]? = _
    rw [Array.getElem?_push, if_neg (by simp), Array.getElem?_push, if_pos rfl]
  have hold : ∀ k, k < w.heap.size → ((w.alloc (.cells Tryz.zeroCells152 152)).alloc (.cells Tryz.zeroCells152 152)).heap[k]? = w.heap[k]? := fun k hk => by
    rw [Below.heap_alloc _ _ _ (by simp; omega), Below.heap_alloc _ _ _ hk]
  have hb : Below w.heap.size w ((w.alloc (.cells Tryz.zeroCells152 152)).alloc (.cells Tryz.zeroCells152 152)) := ((Below.refl _ _).alloc (Nat.le_refl _) _).alloc (by simp) _
  generalize ((w.alloc (.cells Tryz.zeroCells152 152)).alloc (.cells Tryz.zeroCells152 152)) = W at *
  have hs : (W.setRow (w.heap.size + 1) cs).heap.size = w.heap.size + 2 := by rw [size_setRow]; exact hz
  refine ⟨?_, ?_, ⟨cs, ?_, hsz, fun i hi => by rw [hcs i hi, pathAt_zero]⟩, by omega, ?_⟩
  · rw [← hs]; exact World.iter_heap _ _ _
  · show ((W.setRow (w.heap.size + 1) cs).alloc _).heap[w.heap.size]? = _
    rw [Below.heap_alloc _ _ _ (by omega), setRow_other _ _ _ _ (by omega)]; exact h0
  · show ((W.setRow (w.heap.size + 1) cs).alloc _).heap[w.heap.size + 1]? = _
    rw [Below.heap_alloc _ _ _ (by omega)]; exact setRow_heap _ _ _ _ _ _ h1
  · exact (below_setRow hb (by omega) cs).alloc (by omega) _
set_option maxHeartbeats 4000000 in
set_option maxRecDepth 100000 in
theorem pathBytes_any (w : World) (hset : SetIs w) :
    Calls Tryz.prog 165 #[] w fun e w' => (∃ cs, e = .returned (.agg cs) ∧ ∀ i : Nat, i < 128 → cs[i]? = some (.bool (pathI (i : Int)))) ∧ Below w.heap.size w w' := by
  obtain ⟨cs, tt, fr, hg, hsz, hcs⟩ := hset
  have HI : Hid ((Tryz.prog.info? 152).map (·.size) = some cs.size) := by
    show _ = _
    rw [infoSet, hsz]
  have HA : Hid (cs.all (·.oneCell') = true) := all_bools hsz hcs
  have HZ : Hid ((Tryz.zeroCells152).size = cs.size) := by show _ = _; rw [zeroSet_size, hsz]
  have HP : Hid (PathW w 0 _) := path_start hsz hcs
  have HG : Hid ((w.alloc (.cells Tryz.zeroCells152 152)).heap[4]? = some (.cells cs tt fr)) := by
    show _ = _
    rw [Below.heap_alloc _ _ _ (Array.getElem?_eq_some_iff.1 hg).1]; exact hg
  have HG1 : Hid (((w.alloc (.cells Tryz.zeroCells152 152)).alloc (.cells Tryz.zeroCells152 152)).heap[w.heap.size + 1]? = some (.cells Tryz.zeroCells152 152 (0, 0))) := by
    show ((w.heap.push _).push _)[w.heap.size + 1]? = _
    rw [Array.getElem?_push, if_pos (by simp)]
  clear hg hsz hcs
  go_enter Tryz.func165, Tryz.ntmps165
  go_wp2_with (first
    | refine wpList_load_row rfl 152 (.global 4) rfl 4 rfl tt cs fr _ HG.out Tryz.underlying152 rfl HI.out ?_
    | refine wpList_store_row rfl 152 (.tmp 1) (.tmp 4) rfl (w.heap.size + 1) cs (by rfl) (by rfl) 152 _ HG1.out HI.out HZ.out HA.out ?_)
  clear HG HG1 HI HA HZ
  go_loopw [3] (fun _ wr => ∃ pos, PathW w pos wr) (fun _ wr => 10 - wr.iterPos (w.heap.size + 2))
  case atStart => exact ⟨0, HP.out⟩
  case round =>
    clear HP
    obtain ⟨pos, hP⟩ := hrel
    have HP : Hid (PathW w pos wr) := hP
    by_cases hlt : pos < 10
    · have hp' : pos < marksS.size := hlt
      have hnx : ∀ ty, (Instr.next (.pointer (some ⟨w.heap.size + 1 + 1, 0, none⟩)) true ty).run Tryz.prog wr = .ok (.tuple #[.bool true, .int .i64 pos, .int .i32 (markAt pos : Int)]) (wr.iterAt (w.heap.size + 2) marksS (pos + 1)) := fun ty => by
        have := Lib.run_next_ascii_at (P := Tryz.prog) wr (w.heap.size + 2) marksS pos ty hP.it hp' (by rw [markAt_eq pos hp']; exact markAt_lt pos)
        rw [markAt_eq pos hp'] at this
        exact this
      have HN : Hid (PathW w (pos + 1) ((wr.iterAt (w.heap.size + 2) marksS (pos + 1)).setCell ⟨w.heap.size + 1, markAt pos, none⟩ (.bool true))) := hP.next hlt
      have hc : (wr.iterAt (w.heap.size + 2) marksS (pos + 1)).cell? ⟨w.heap.size + 1, markAt pos, none⟩ = some (.bool (pathAt pos (markAt pos))) := by
        rw [← (hP.cell (markAt pos) (markAt_lt pos)).1]
        simp only [World.cell?]
        rw [Lib.iterAt_other _ _ _ _ _ (by omega)]
      have hf : (wr.iterAt (w.heap.size + 2) marksS (pos + 1)).frozen? ⟨w.heap.size + 1, markAt pos, none⟩ = false := by
        rw [← (hP.cell (markAt pos) (markAt_lt pos)).2]
        simp only [World.frozen?]
        rw [Lib.iterAt_other _ _ _ _ _ (by omega)]
      have hm := markAt_lt pos
      have HQ : Hid (wr.iterPos (w.heap.size + 2) = pos) := by
        show _ = _
        unfold World.iterPos
        rw [hP.it]
      have HQ2 : Hid (((wr.iterAt (w.heap.size + 2) marksS (pos + 1)).setCell ⟨w.heap.size + 1, markAt pos, none⟩ (.bool true)).iterPos (w.heap.size + 2) = pos + 1) := by
        show _ = _
        unfold World.iterPos
        rw [HN.out.it]
      clear hP hp'
      generalize wr.iterAt (w.heap.size + 2) marksS (pos + 1) = W2 at *
      generalize markAt pos = c at *
      generalize pathAt pos c = bb at *
      go_wp2_with fail
      go_roundw
      case rel => exact ⟨pos + 1, HN.out⟩
      case measure => rw [HQ.out, HQ2.out]; omega
    · have hnx : ∀ ty, (Instr.next (.pointer (some ⟨w.heap.size + 1 + 1, 0, none⟩)) true ty).run Tryz.prog wr = .ok (.tuple #[.bool false]) wr := fun ty => Lib.run_next_end_at (P := Tryz.prog) wr (w.heap.size + 2) marksS pos ty hP.it (fun h => hlt h)
      have e10 : pos = 10 := by have := hP.le; omega
      subst e10
      obtain ⟨cs', h1, h2, h3⟩ := hP.b1
      have HI : Hid ((Tryz.prog.info? 152).map (·.size) = some cs'.size) := by
        show _ = _
        rw [infoSet, h2]
      have HA : Hid (cs'.all (·.oneCell') = true) := all_bools h2 h3
      have HZ : Hid ((Tryz.zeroCells152).size = cs'.size) := by show _ = _; rw [zeroSet_size, h2]
      have H1 : Hid (wr.heap[w.heap.size + 1]? = some (.cells cs' 152 (0, 0))) := h1
      have H0 : Hid (wr.heap[w.heap.size]? = some (.cells Tryz.zeroCells152 152 (0, 0))) := hP.b0
      have H3 : Hid (∀ i : Nat, i < 128 → cs'[i]? = some (.bool (pathI (i : Int)))) := fun i hi => by rw [h3 i hi, pathAt_end]
      have HB : Hid (Below w.heap.size w (wr.setRow w.heap.size cs')) := below_setRow hP.bel (Nat.le_refl _) cs'
      clear h1 h2 h3 hP HP
      go_wp2_with (first
        | refine wpList_load_row rfl 152 (.tmp 1) rfl (w.heap.size + 1) (by rfl) 152 cs' (0, 0) _ H1.out Tryz.underlying152 rfl HI.out ?_
        | refine wpList_store_row rfl 152 (.tmp 0) (.tmp 11) rfl w.heap.size cs' (by rfl) (by rfl) 152 _ H0.out HI.out HZ.out HA.out ?_)
      exact bodyPost_ret (v := .agg cs') (results_cell_row Tryz.results165 _ _ w.heap.size 152 cs' (0, 0) _ (by rfl) (setRow_heap _ _ _ _ _ _ H0.out) Tryz.underlying152 rfl HI.out) rfl ⟨⟨cs', rfl, H3.out⟩, HB.out⟩
set_option maxHeartbeats 2000000 in
theorem isPath_any (s : ByteArray) (w : World) (hset : SetIs w) (hs : s.size ≤ 1048576) :
    Calls Tryz.prog 122 #[.string s] w fun e w' => e = .returned (.bool (pathS s)) ∧ Below w.heap.size w w' := by
  have CP := Any.strings_HasPrefix Tryz.lays99 s ⟨#[47]⟩ w
  have e : Lib.hasPrefix s.data.toList [47] = decide (s.data.toList.head? = some 47) := by
    unfold Lib.hasPrefix
    cases s.data.toList with
    | nil => rfl
    | cons x l =>
      rw [Bool.eq_iff_iff]
      simp [List.isPrefixOf]
      exact ⟨fun h => h.symm, fun h => h.symm⟩
  have CP1 : Calls Tryz.prog 164 #[.string s, .string ⟨#[47]⟩] w fun e w' => e = .returned (.bool (decide (s.data.toList.head? = some 47))) ∧ w' = w := by rw [← e]; exact CP
  clear CP e
  by_cases c1 : s.data.toList.head? = some 47
  · rw [decide_eq_true c1] at CP1
    by_cases c2 : 100 < s.size
    · have HE : Hid (pathS s = false) := pathS_long s c2
      have g : decide ((s.size : Int) ≤ 100) = false := by simp; omega
      clear c1 hset
      go_enter Tryz.func122, Tryz.ntmps122
      go_wp2_with (go_at_call 164; refine CP1.mono ?_; rintro e w' ⟨rfl, rfl⟩)
      go_ret
      exact ⟨ret_bool HE.out.symm, Below.refl _ _⟩
    · have HE : Hid (pathS s = allP pathI s.data.toList) := pathS_mid s c1 (by omega)
      have g : decide ((s.size : Int) ≤ 100) = true := by simp; omega
      have C1 := pathBytes_any w hset
      have C2 : Hid (∀ (W : World) cs, (∀ i : Nat, i < 128 → cs[i]? = some (.bool (pathI (i : Int)))) → Calls Tryz.prog 133 #[.string s, .agg cs] W fun e w' => e = .returned (.bool (allP pathI s.data.toList)) ∧ Below W.heap.size W w') := fun W cs h => hasOnly_gen pathI pathI_big s cs W (by omega) h
      clear c1 hset c2
      go_enter Tryz.func122, Tryz.ntmps122
      go_wp2_with (go_at_call 164; refine CP1.mono ?_; rintro e w' ⟨rfl, hw⟩; obtain rfl := hw.symm)
      refine C1.mono ?_
      rintro e w1 ⟨⟨cs, rfl, hcs⟩, hb1⟩
      have C3 := C2.out w1 cs hcs
      have HB : Hid (Below w.heap.size w w1) := hb1
      clear C1 C2 hcs hb1
      go_wp2_with fail
      refine C3.mono ?_
      rintro e w2 ⟨rfl, hb2⟩
      have HB2 : Hid (Below w.heap.size w w2) := HB.out.trans (hb2.mono HB.out.size)
      clear hb2 HB C3
      go_wp2_with fail
      go_ret
      exact ⟨ret_bool HE.out.symm, HB2.out⟩
  · rw [decide_eq_false c1] at CP1
    have HE : Hid (pathS s = false) := pathS_first s c1
    clear c1 hset
    go_enter Tryz.func122, Tryz.ntmps122
    go_wp2_with (go_at_call 164; refine CP1.mono ?_; rintro e w' ⟨rfl, rfl⟩)
    go_ret
    exact ⟨ret_bool HE.out.symm, Below.refl _ _⟩
end Go.Proofs.YtojcjpdgjohldaaGreatDoor
/-
  errors.Is at a sentinel: the same one, none, another one.
-/
namespace Go.Proofs.YtojcjpdgjohldaaGreatDoor
open Go.RowKit Go.Extern.Stop Go.Stop Go.Extern
theorem erTypeOf (v : Value) (w : World) : (Extern.ReflectliteType.typeOf #[.iface 261 v]).run Tryz.prog w = .ok (.iface 203 (.agg #[.pointer (some ⟨11, 261, none⟩)])) w := by kernel_rfl
noncomputable def erM (t : TypeId) : Sem Value := do Go.Extern.Rtype.noPackHeld "Comparable" t; pure (.bool (← typeInfo t).comparable)
theorem erComparable (w : World) : (Extern.ReflectliteType.method erM #[.agg #[.pointer (some ⟨11, 261, none⟩)]]).run Tryz.prog w = .ok (.bool true) w := by kernel_rfl
theorem erMethod (v : Value) (w : World) : (Go.method 395 203 v "Comparable").run Tryz.prog w = .ok (264, v) w := by kernel_rfl
theorem erComp : (Tryz.prog.info? 261).map (·.comparable) = some true := by kernel_rfl
theorem erSize : (Tryz.prog.info? 284).map (·.size) = some 1 := by kernel_rfl
theorem erNoIs (v : Value) (xT : TypeId) (w : World) : (Instr.typeAssert (.iface 261 v) xT 205 true).run Tryz.prog w = .ok (.tuple #[.nilIface, .bool false]) w := run_typeAssert_lacksB Tryz.underlying205 (by kernel_rfl) (by kernel_rfl) v xT w
theorem erNoUnwrap (v : Value) (xT : TypeId) (w : World) : (Instr.typeAssert (.iface 261 v) xT 208 true).run Tryz.prog w = .ok (.tuple #[.nilIface, .bool false]) w := run_typeAssert_lacksB Tryz.underlying208 (by kernel_rfl) (by kernel_rfl) v xT w
theorem erNoUnwraps (v : Value) (xT : TypeId) (w : World) : (Instr.typeAssert (.iface 261 v) xT 210 true).run Tryz.prog w = .ok (.tuple #[.nilIface, .bool false]) w := run_typeAssert_lacksB Tryz.underlying210 (by kernel_rfl) (by kernel_rfl) v xT w
set_option maxRecDepth 100000 in
theorem is_same (a : Addr) (w : World) :
    Calls Tryz.prog 120 #[.iface 261 (.pointer (some a)), .iface 261 (.pointer (some a))] w fun e w' => e = .returned (.bool true) ∧ w' = w := by
  obtain ⟨i, hi, hcmp⟩ := Option.map_eq_some_iff.1 erComp
  obtain ⟨j, hj, hjs⟩ := Option.map_eq_some_iff.1 erSize
  have h8 := @run_callFunc_extern Tryz.prog 161 _ Extern.ReflectliteType.typeOf Tryz.func161 (by kernel_rfl) (by kernel_rfl) (by kernel_rfl) (by kernel_rfl)
  have h32 := @run_callFunc_extern Tryz.prog 264 _ (Extern.ReflectliteType.method erM) Tryz.func264 (by kernel_rfl) (by kernel_rfl) (by kernel_rfl) (by kernel_rfl)
  have tT := erTypeOf
  have cT := erComparable
  have mR := erMethod
  have heq := run_eql_iface_ptr_same (P := Tryz.prog) w a Tryz.underlying93 Tryz.underlying261 hi hcmp hj
  go_enter Tryz.func120, Tryz.ntmps120
  go_wp2
  refine wp_loop_rounds 1 ?_
  rw [rounds_succ]
  go_wp2
  go_ret
  exact ⟨rfl, rfl⟩
set_option maxRecDepth 100000 in
theorem is_other (a b : Addr) (ca cb : Array Value) (ta tb : TypeId) (w : World) (hne : a ≠ b) (ha : w.heap[a.block]? = some (.cells ca ta (0, 0))) (hb : w.heap[b.block]? = some (.cells cb tb (0, 0))) :
    Calls Tryz.prog 120 #[.iface 261 (.pointer (some a)), .iface 261 (.pointer (some b))] w fun e w' => e = .returned (.bool false) ∧ w' = w := by
  obtain ⟨i, hi, hcmp⟩ := Option.map_eq_some_iff.1 erComp
  obtain ⟨j, hj, hjs⟩ := Option.map_eq_some_iff.1 erSize
  have h8 := @run_callFunc_extern Tryz.prog 161 _ Extern.ReflectliteType.typeOf Tryz.func161 (by kernel_rfl) (by kernel_rfl) (by kernel_rfl) (by kernel_rfl)
  have h32 := @run_callFunc_extern Tryz.prog 264 _ (Extern.ReflectliteType.method erM) Tryz.func264 (by kernel_rfl) (by kernel_rfl) (by kernel_rfl) (by kernel_rfl)
  have tT := erTypeOf
  have cT := erComparable
  have mR := erMethod
  have nE := erNoIs
  have uE := erNoUnwrap
  have vE := erNoUnwraps
  have heq := run_eql_iface_ptr_other (P := Tryz.prog) w Tryz.underlying93 Tryz.underlying261 hi hcmp hj (by rw [hjs]; decide) hne ha hb
  go_enter Tryz.func120, Tryz.ntmps120
  go_wp2
  refine wp_loop_rounds 1 ?_
  rw [rounds_succ]
  go_wp2
  go_ret
  exact ⟨rfl, rfl⟩
end Go.Proofs.YtojcjpdgjohldaaGreatDoor
/-
  The four errors of chapter 5 in memory: what the row's list gives of them; codeOf.
-/
namespace Go.Proofs.YtojcjpdgjohldaaGreatDoor
open Go.ChangeShapes Go.WideShapes Go.ChangeAt Go.RowKit
theorem laid_sentinels4 {P : Program} {n0 n1 n2 n3 nm : String} {x0 x1 x2 x3 : List UInt8} {r : List (String × DataW Unit)} {W : World} {g0 g1 g2 g3 : Nat} {ti tp te ts : TypeId} {ms : Array (String × TypeId)} {f : Field}
    (h : laidMet P ((n0, .iface nm (.ptr (.agg [.lit (.string x0)]))) :: (n1, .iface nm (.ptr (.agg [.lit (.string x1)]))) :: (n2, .iface nm (.ptr (.agg [.lit (.string x2)]))) :: (n3, .iface nm (.ptr (.agg [.lit (.string x3)]))) :: r) W)
    (hg0 : P.globalNamed n0 = some g0) (ht0 : (P.globals[g0]?).map (·.type) = some ti) (hg1 : P.globalNamed n1 = some g1) (ht1 : (P.globals[g1]?).map (·.type) = some ti) (hg2 : P.globalNamed n2 = some g2) (ht2 : (P.globals[g2]?).map (·.type) = some ti) (hg3 : P.globalNamed n3 = some g3) (ht3 : (P.globals[g3]?).map (·.type) = some ti)
    (hi : P.underlying ti = some (.interface ms)) (hrow : ∀ u, P.typeName? 3 u = some nm → u = tp) (hp : P.underlying tp = some (.pointer te)) (he : P.underlying te = some (.struct #[f])) (hft : f.type = ts) (hfo : f.offset = 0) (hs : P.underlying ts = some .string) (hc : P.cellsOf te = 1) (hcs : P.cellsOf ts = 1) :
    ∃ a0 a1 a2 a3 : Addr, (W.var? P n0 = some #[.iface tp (.pointer (some a0))] ∧ W.var? P n1 = some #[.iface tp (.pointer (some a1))] ∧ W.var? P n2 = some #[.iface tp (.pointer (some a2))] ∧ W.var? P n3 = some #[.iface tp (.pointer (some a3))]) ∧
      (a0 ≠ a1 ∧ a0 ≠ a2 ∧ a0 ≠ a3 ∧ a1 ≠ a2 ∧ a1 ≠ a3 ∧ a2 ≠ a3) ∧
      (∃ c t, W.heap[a0.block]? = some (.cells c t (0, 0))) ∧ (∃ c t, W.heap[a1.block]? = some (.cells c t (0, 0))) ∧ (∃ c t, W.heap[a2.block]? = some (.cells c t (0, 0))) ∧ (∃ c t, W.heap[a3.block]? = some (.cells c t (0, 0))) := by
  obtain ⟨ps, ⟨g0', t0', cs0, f0, p0, q0, hg0', ht0', hv0, hd0, ⟨g1', t1', cs1, f1, p1, q1, hg1', ht1', hv1, hd1, ⟨g2', t2', cs2, f2, p2, q2, hg2', ht2', hv2, hd2, ⟨g3', t3', cs3, f3, p3, q3, hg3', ht3', hv3, hd3, _, e3⟩, e2⟩, e1⟩, e0⟩, hnd, hrows⟩ := h
  obtain rfl := Option.some.inj (hg0.symm.trans hg0')
  obtain rfl := Option.some.inj (hg1.symm.trans hg1')
  obtain rfl := Option.some.inj (hg2.symm.trans hg2')
  obtain rfl := Option.some.inj (hg3.symm.trans hg3')
  obtain rfl := Option.some.inj (ht0.symm.trans ht0')
  obtain rfl := Option.some.inj (ht1.symm.trans ht1')
  obtain rfl := Option.some.inj (ht2.symm.trans ht2')
  obtain rfl := Option.some.inj (ht3.symm.trans ht3')
  subst e3
  subst e2
  subst e1
  subst e0
  obtain ⟨l0⟩ := cs0
  obtain ⟨l1⟩ := cs1
  obtain ⟨l2⟩ := cs2
  obtain ⟨l3⟩ := cs3
  have ok0 : ∀ u v, l0 = [.iface u v] → Value.okWide P W .any 0 u v := fun u v e => by
    subst e
    exact (hrows g0 0 (by simp [MemPlace.row])).2 u v (by simpa using World.var?_cell hg0' hv0 0)
  have ok1 : ∀ u v, l1 = [.iface u v] → Value.okWide P W .any 0 u v := fun u v e => by
    subst e
    exact (hrows g1 0 (by simp [MemPlace.row])).2 u v (by simpa using World.var?_cell hg1' hv1 0)
  have ok2 : ∀ u v, l2 = [.iface u v] → Value.okWide P W .any 0 u v := fun u v e => by
    subst e
    exact (hrows g2 0 (by simp [MemPlace.row])).2 u v (by simpa using World.var?_cell hg2' hv2 0)
  have ok3 : ∀ u v, l3 = [.iface u v] → Value.okWide P W .any 0 u v := fun u v e => by
    subst e
    exact (hrows g3 0 (by simp [MemPlace.row])).2 u v (by simpa using World.var?_cell hg3' hv3 0)
  obtain ⟨a0, s0, rfl, hc0, hs0, hz0, rfl⟩ := errorString_of_trod hi hrow hp he hft hfo hs hc hcs hd0 ok0
  obtain ⟨a1, s1, rfl, hc1, hs1, hz1, rfl⟩ := errorString_of_trod hi hrow hp he hft hfo hs hc hcs hd1 ok1
  obtain ⟨a2, s2, rfl, hc2, hs2, hz2, rfl⟩ := errorString_of_trod hi hrow hp he hft hfo hs hc hcs hd2 ok2
  obtain ⟨a3, s3, rfl, hc3, hs3, hz3, rfl⟩ := errorString_of_trod hi hrow hp he hft hfo hs hc hcs hd3 ok3
  have b0 := (hrows a0.block a0.off (by simp [MemPlace.row])).1
  have b1 := (hrows a1.block a1.off (by simp [MemPlace.row])).1
  have b2 := (hrows a2.block a2.off (by simp [MemPlace.row])).1
  have b3 := (hrows a3.block a3.off (by simp [MemPlace.row])).1
  refine ⟨a0, a1, a2, a3, ⟨hv0, hv1, hv2, hv3⟩, ⟨?_, ?_, ?_, ?_, ?_, ?_⟩, b0, b1, b2, b3⟩
  all_goals (rintro rfl; simp [MemPlace.row] at hnd)
structure Errs where
  u : Addr
  m : Addr
  b : Addr
  d : Addr
/-- The four variables hold pointers to four errors of errors.New's make. -/
structure ErrsIs (w : World) (E : Errs) : Prop where
  gU : w.cell? ⟨3, 0, none⟩ = some (.iface 261 (.pointer (some E.u)))
  gM : w.cell? ⟨0, 0, none⟩ = some (.iface 261 (.pointer (some E.m)))
  gB : w.cell? ⟨1, 0, none⟩ = some (.iface 261 (.pointer (some E.b)))
  gD : w.cell? ⟨2, 0, none⟩ = some (.iface 261 (.pointer (some E.d)))
  ne : E.u ≠ E.m ∧ E.u ≠ E.b ∧ E.u ≠ E.d ∧ E.m ≠ E.b ∧ E.m ≠ E.d ∧ E.b ≠ E.d
  hU : ∃ c t, w.heap[E.u.block]? = some (.cells c t (0, 0))
  hM : ∃ c t, w.heap[E.m.block]? = some (.cells c t (0, 0))
  hB : ∃ c t, w.heap[E.b.block]? = some (.cells c t (0, 0))
  hD : ∃ c t, w.heap[E.d.block]? = some (.cells c t (0, 0))
theorem ErrsIs.below {w w' : World} {E : Errs} (h : ErrsIs w E) (hb : Below w.heap.size w w') : ErrsIs w' E := by
  have hc : ∀ {g : Nat} {v : Value}, w.cell? ⟨g, 0, none⟩ = some v → w'.cell? ⟨g, 0, none⟩ = some v := fun {g v} e => by rw [hb.cell (block_lt_of_cell e)]; exact e
  have hh : ∀ {a : Addr}, (∃ c t, w.heap[a.block]? = some (.cells c t (0, 0))) → ∃ c t, w'.heap[a.block]? = some (.cells c t (0, 0)) := fun {a} ⟨c, t, e⟩ => ⟨c, t, by rw [hb.block a.block (Array.getElem?_eq_some_iff.1 e).1]; exact e⟩
  exact ⟨hc h.gU, hc h.gM, hc h.gB, hc h.gD, h.ne, hh h.hU, hh h.hM, hh h.hB, hh h.hD⟩
theorem erRow (u : TypeId) (h : Tryz.prog.typeName? 3 u = some "*errors.errorString") : u = 261 :=
  typeName_ptr_named (nm := "errors.errorString") (by rw [show "*" ++ "errors.errorString" = "*errors.errorString" from by decide]; kernel_rfl) (by kernel_rfl) (by decide) u (by rw [show "*" ++ "errors.errorString" = "*errors.errorString" from by decide]; exact h)
theorem erNamedU : Tryz.prog.globalNamed "loop.example/g00665/impl.errUnread" = some 3 := by kernel_rfl
theorem erTypeU : (Tryz.prog.globals[3]?).map (·.type) = some 93 := by kernel_rfl
theorem erNamedM : Tryz.prog.globalNamed "loop.example/g00665/impl.errTooMany" = some 0 := by kernel_rfl
theorem erTypeM : (Tryz.prog.globals[0]?).map (·.type) = some 93 := by kernel_rfl
theorem erNamedB : Tryz.prog.globalNamed "loop.example/g00665/impl.errBeyond" = some 1 := by kernel_rfl
theorem erTypeB : (Tryz.prog.globals[1]?).map (·.type) = some 93 := by kernel_rfl
theorem erNamedD : Tryz.prog.globalNamed "loop.example/g00665/impl.errDouble" = some 2 := by kernel_rfl
theorem erTypeD : (Tryz.prog.globals[2]?).map (·.type) = some 93 := by kernel_rfl
theorem errsIs_of {w : World} {rest : List (String × DataW Unit)} (h : laidMet Tryz.prog (("loop.example/g00665/impl.errUnread", Rows.laid_loop_example_g00665_impl_errUnread) :: ("loop.example/g00665/impl.errTooMany", Rows.laid_loop_example_g00665_impl_errTooMany) :: ("loop.example/g00665/impl.errBeyond", Rows.laid_loop_example_g00665_impl_errBeyond) :: ("loop.example/g00665/impl.errDouble", Rows.laid_loop_example_g00665_impl_errDouble) :: rest) w) : ∃ E, ErrsIs w E := by
  obtain ⟨a0, a1, a2, a3, ⟨v0, v1, v2, v3⟩, hne, h0, h1, h2, h3⟩ := laid_sentinels4 h erNamedU erTypeU erNamedM erTypeM erNamedB erTypeB erNamedD erTypeD Tryz.underlying93 erRow Tryz.underlying261 Tryz.underlying284 rfl rfl Tryz.underlying9 (by kernel_rfl) (by kernel_rfl)
  exact ⟨⟨a0, a1, a2, a3⟩, by simpa using World.var?_cell erNamedU v0 0, by simpa using World.var?_cell erNamedM v1 0, by simpa using World.var?_cell erNamedB v2 0, by simpa using World.var?_cell erNamedD v3 0, hne, h0, h1, h2, h3⟩
/-- The error of a code. -/
def errV (E : Errs) (c : Int) : Value := if c = 0 then .nilIface else if c = 2 then .iface 261 (.pointer (some E.m)) else if c = 3 then .iface 261 (.pointer (some E.b)) else if c = 6 then .iface 261 (.pointer (some E.d)) else .iface 261 (.pointer (some E.u))
theorem errV0 (E : Errs) : errV E 0 = .nilIface := rfl
theorem errV2 (E : Errs) : errV E 2 = .iface 261 (.pointer (some E.m)) := rfl
theorem errV3 (E : Errs) : errV E 3 = .iface 261 (.pointer (some E.b)) := rfl
theorem errV5 (E : Errs) : errV E 5 = .iface 261 (.pointer (some E.u)) := rfl
theorem errV6 (E : Errs) : errV E 6 = .iface 261 (.pointer (some E.d)) := rfl
end Go.Proofs.YtojcjpdgjohldaaGreatDoor
/-
  codeOf and headError.
-/
namespace Go.Proofs.YtojcjpdgjohldaaGreatDoor
open Go.ChangeShapes Go.WideShapes Go.ChangeAt Go.RowKit
set_option maxHeartbeats 1000000 in
theorem codeOf_any (E : Errs) (c : Int) (w : World) (hE : ErrsIs w E) (hc : c = 0 ∨ c = 2 ∨ c = 3 ∨ c = 5 ∨ c = 6) :
    Calls Tryz.prog 71 #[errV E c] w fun e w' => e = .returned (.int .i64 c) ∧ w' = w := by
  obtain ⟨gU, gM, gB, gD, ⟨n1, n2, n3, n4, n5, n6⟩, ⟨cu, tu, hU⟩, ⟨cm, tm, hM⟩, ⟨cb, tb, hB⟩, ⟨cd, td, hD⟩⟩ := hE
  rcases hc with rfl | rfl | rfl | rfl | rfl
  · rw [errV0]
    go_enter Tryz.func71, Tryz.ntmps71
    go_wp2_with fail
    go_ret
    exact ⟨rfl, rfl⟩
  · rw [errV2]
    have I1 := is_same E.m w
    go_enter Tryz.func71, Tryz.ntmps71
    go_wp2_with fail
    refine I1.mono ?_
    rintro e w' ⟨rfl, rfl⟩
    go_wp2_with fail
    go_ret
    exact ⟨rfl, rfl⟩
  · rw [errV3]
    have I1 := is_other E.b E.m cb cm tb tm w (Ne.symm n4) hB hM
    have I2 := is_same E.b w
    go_enter Tryz.func71, Tryz.ntmps71
    go_wp2_with fail
    refine I1.mono ?_
    rintro e w' ⟨rfl, rfl⟩
    go_wp2_with fail
    refine I2.mono ?_
    rintro e w' ⟨rfl, rfl⟩
    go_wp2_with fail
    go_ret
    exact ⟨rfl, rfl⟩
  · rw [errV5]
    have I1 := is_other E.u E.m cu cm tu tm w n1 hU hM
    have I2 := is_other E.u E.b cu cb tu tb w n2 hU hB
    have I3 := is_other E.u E.d cu cd tu td w n3 hU hD
    go_enter Tryz.func71, Tryz.ntmps71
    go_wp2_with fail
    refine I1.mono ?_
    rintro e w' ⟨rfl, rfl⟩
    go_wp2_with fail
    refine I2.mono ?_
    rintro e w' ⟨rfl, rfl⟩
    go_wp2_with fail
    refine I3.mono ?_
    rintro e w' ⟨rfl, rfl⟩
    go_wp2_with fail
    go_ret
    exact ⟨rfl, rfl⟩
  · rw [errV6]
    have I1 := is_other E.d E.m cd cm td tm w (Ne.symm n5) hD hM
    have I2 := is_other E.d E.b cd cb td tb w (Ne.symm n6) hD hB
    have I3 := is_same E.d w
    go_enter Tryz.func71, Tryz.ntmps71
    go_wp2_with fail
    refine I1.mono ?_
    rintro e w' ⟨rfl, rfl⟩
    go_wp2_with fail
    refine I2.mono ?_
    rintro e w' ⟨rfl, rfl⟩
    go_wp2_with fail
    refine I3.mono ?_
    rintro e w' ⟨rfl, rfl⟩
    go_wp2_with fail
    go_ret
    exact ⟨rfl, rfl⟩
set_option maxHeartbeats 1000000 in
theorem headError_any (E : Errs) (c : Int) (w : World) (hE : ErrsIs w E) (hc : c = 0 ∨ c = 2 ∨ c = 5) :
    Calls Tryz.prog 123 #[.int .i64 c] w fun e w' => e = .returned (errV E c) ∧ w' = w := by
  have gM := hE.gM
  have gU := hE.gU
  rcases hc with rfl | rfl | rfl
  · rw [errV0]
    go_enter Tryz.func123, Tryz.ntmps123
    go_wp2
    go_ret
    exact ⟨rfl, rfl⟩
  · rw [errV2]
    go_enter Tryz.func123, Tryz.ntmps123
    go_wp2
    go_ret
    exact ⟨rfl, rfl⟩
  · rw [errV5]
    go_enter Tryz.func123, Tryz.ntmps123
    go_wp2
    go_ret
    exact ⟨rfl, rfl⟩
end Go.Proofs.YtojcjpdgjohldaaGreatDoor
/-
  What JoinHeader answers.
-/
namespace Go.Proofs.YtojcjpdgjohldaaGreatDoor
open Go.ChangeShapes Go.WideShapes Go.ChangeAt Go.RowKit Go.Sort
theorem HeadsAt.drop {w : World} {b off : Nat} {l : List Hdr} (h : HeadsAt w b off l) (i : Nat) : HeadsAt w b (off + i * 2) (l.drop i) := by
  intro j r hr
  rw [List.getElem?_drop] at hr
  obtain ⟨a, c⟩ := h (i + j) r hr
  rw [show off + (i + j) * 2 = off + i * 2 + j * 2 from by omega] at a c
  exact ⟨a, c⟩
theorem hjoinL_len (vs : List ByteArray) (h : ∀ v ∈ vs, v.size ≤ 200) : (hjoinL vs).length ≤ vs.length * 202 := by
  unfold hjoinL
  cases vs with
  | nil => simp [Lib.join, List.intercalate]
  | cons x r =>
    rw [List.map_cons, Lib.join_length]
    have hl : ∀ (l : List ByteArray), (∀ v ∈ l, v.size ≤ 200) → Lib.lens (l.map (·.data.toList)) ≤ l.length * 200 := by
      intro l
      induction l with
      | nil => intro _; simp [Lib.lens]
      | cons y l ih =>
        intro hy
        have h1 := ih fun v hv => hy v (by simp [hv])
        have h2 := hy y (by simp)
        have h3 : y.data.toList.length = y.size := by simp
        simp only [List.map_cons, Lib.lens, List.length_cons, List.sum_cons] at h1 ⊢
        omega
    have := hl (x :: r) h
    rw [List.map_cons] at this
    simp only [List.length_cons, List.length_map, List.length_nil] at this ⊢
    omega
theorem valsOf_mem {x : ByteArray} {l : List Hdr} (hz : ∀ (i : Nat) r, l[i]? = some r → r.name.size ≤ 64 ∧ r.value.size ≤ 200) : ∀ v ∈ valsOf x l, v.size ≤ 200 := by
  intro v hv
  obtain ⟨r, hr, rfl⟩ := List.mem_map.1 hv
  obtain ⟨i, hi⟩ := List.getElem?_of_mem (List.mem_filter.1 hr).1
  exact (hz i r hi).2
theorem valsOf_len (x : ByteArray) (l : List Hdr) : (valsOf x l).length ≤ l.length := by
  unfold valsOf
  rw [List.length_map]
  exact List.length_filter_le _ _
set_option maxRecDepth 100000 in
set_option maxHeartbeats 8000000 in
theorem implJoin_found (w : World) (b off cap : Nat) (l : List Hdr) (name : ByteArray) (i : Nat) (h0 : askC l name = 0) (hf : firstAt (lowS name) l = some i) (hcap : l.length ≤ cap) (hset : SetIs w) (hat : HeadsAt w b off l) :
    Calls Tryz.prog 92 #[.slice (some ⟨b, off, none⟩) l.length cap, .string name] w fun e w' => e = .returned (.agg #[.int .i64 0, .string ⟨(hjoinL (valsOf (lowS name) l)).toArray⟩]) ∧ Below w.heap.size w w' := by
  obtain ⟨h20, hz, hnm⟩ := asked h0
  have hi : HdsIn w (some ⟨b, off, none⟩) l := .inr ⟨b, off, rfl, hat⟩
  have HA : Hid (∀ W, Below w.heap.size w W → Calls Tryz.prog 134 #[.slice (some ⟨b, off, none⟩) l.length cap, .string name] W fun e w' => e = .returned (.int .i64 0) ∧ Below W.heap.size W w') := fun W hb => by
    have := namedFault_any W (some ⟨b, off, none⟩) cap l name (by omega) (hset.below hb) (hi.keep hb)
    rw [h0] at this
    exact this
  have HP : Hid (∀ W, Below w.heap.size w W → Calls Tryz.prog 135 #[.slice (some ⟨b, off, none⟩) l.length cap] W fun e w' => e = .returned (.map (some W.heap.size)) ∧ NamesMap w' W.heap.size 20 (fun x => firstAt x l) ∧ Below W.heap.size W w') := fun W hb => firstPlaces_any W _ cap l h20 (fun i r hr => (hz i r hr).1) (hi.keep hb)
  have HS : Hid (∀ W, Calls Tryz.prog 91 #[.string name] W fun e w' => e = .returned (.string (lowS name)) ∧ Below W.heap.size W w') := fun W => smallName_any name W (by omega)
  have hil := firstAt_lt hf
  have HV : Hid (valsOf (lowS name) (l.drop i) = valsOf (lowS name) l) := (valsOf_drop hf).1
  have HD : Hid (HeadsAt w b (off + i * 2) (l.drop i)) := hat.drop i
  have HZ : Hid (∀ (j : Nat) r, (l.drop i)[j]? = some r → r.name.size ≤ 64 ∧ r.value.size ≤ 200) := fun j r hr => by
    rw [List.getElem?_drop] at hr
    exact hz _ r hr
  have HF : Hid (firstAt (lowS name) l = some i) := hf
  have sz := lowS_size name
  have hJL : (hjoinL (valsOf (lowS name) l)).length ≤ 4040 := by
    have h1 := hjoinL_len _ (valsOf_mem (x := lowS name) hz)
    have h2 := valsOf_len (lowS name) l
    have h3 : (valsOf (lowS name) l).length * 202 ≤ 20 * 202 := Nat.mul_le_mul_right _ (by omega)
    omega
  have hVL : (valsOf (lowS name) l).length ≤ 20 := Nat.le_trans (valsOf_len _ _) h20
  generalize hM : l.drop i = M at *
  have hMl : M.length = l.length - i := by rw [← hM, List.length_drop]
  clear hi hz h0 hset hat hf hM
  generalize lowS name = q at *
  have hni : i < l.length := hil
  generalize hn : l.length = n at *
  have HN : Hid (M.length = n - i) := hMl
  clear hMl hil hn
  go_enter Tryz.func92, Tryz.ntmps92
  go_wp2_with fail
  refine (HA.out _ ((Below.refl _ _).alloc (Nat.le_refl _) _)).mono ?_
  rintro e w1 ⟨rfl, hb1⟩
  rw [World.size_alloc] at hb1
  have HB1 : Hid (Below (w.heap.size + 1) (w.alloc (.cells #[.int .i64 0, .string ⟨#[]⟩] 50)) w1) := hb1
  have hz1 : w.heap.size + 1 ≤ w1.heap.size := by have := hb1.size; rwa [World.size_alloc] at this
  clear hb1 HA
  go_wp2_with fail
  refine (HS.out _).mono ?_
  rintro e w2 ⟨rfl, hb2⟩
  have HB2 : Hid (Below (w.heap.size + 1) (w.alloc (.cells #[.int .i64 0, .string ⟨#[]⟩] 50)) w2) := HB1.out.trans (hb2.mono hz1)
  have hz2 : w.heap.size + 1 ≤ w2.heap.size := Nat.le_trans hz1 hb2.size
  clear hb2 HB1 HS hz1
  go_wp2_with fail
  refine (HP.out _ (text_room HB2.out).2.2.2.2.2).mono ?_
  rintro e w3 ⟨rfl, hm3, hb3⟩
  have HB3 : Hid (Below (w.heap.size + 1) (w.alloc (.cells #[.int .i64 0, .string ⟨#[]⟩] 50)) w3) := HB2.out.trans (hb3.mono hz2)
  have hz3 : w.heap.size + 1 ≤ w3.heap.size := Nat.le_trans hz2 hb3.size
  have HM3 : Hid (NamesMap w3 w2.heap.size 20 (fun x => firstAt x l)) := hm3
  clear hb3 HB2 hm3 HP hz2
  generalize w2.heap.size = B at *
  try clear w2
  have gi0 : (0 : Int) ≤ (i : Int) := by omega
  have gi1 : (i : Int) ≤ (n : Int) := by omega
  have gi2 : (n : Int) ≤ (cap : Int) := by omega
  go_wp2_with (at_lookup; refine wpList_look_some _ rfl _ _ rfl B 20 _ rfl HM3.out q rfl (by omega) i HF.out ?_)
  clear HM3
  have hm20 : n - i ≤ 20 := by omega
  generalize n - i = m at *
  go_loopw [9, 35] (fun v j wr => ∃ (k : Nat), k ≤ m ∧ j = .int .i64 k ∧ OwnS wr (w.heap.size + 1) v (valsOf q (M.take k)) ∧ Below (w.heap.size + 1) (w.alloc (.cells #[.int .i64 0, .string ⟨#[]⟩] 50)) wr) (fun _ j _ => m - (intOf j).toNat)
  case atStart => exact ⟨0, Nat.zero_le _, rfl, OwnS.nil _ _, HB3.out⟩
  case round =>
    obtain ⟨k, hk, rfl, ho, hb⟩ := hrel
    have HO : Hid (OwnS wr (w.heap.size + 1) u9 (valsOf q (M.take k))) := ho
    have hz : w.heap.size + 1 ≤ wr.heap.size := by have := hb.size; rwa [World.size_alloc] at this
    have hwr : Below w.heap.size w wr := ((Below.refl _ _).alloc (Nat.le_refl _) _).trans (hb.mono (Nat.le_succ _))
    clear ho HB3
    by_cases hlt : k < m
    · obtain ⟨r, hr⟩ : ∃ r, M[k]? = some r := ⟨M[k]'(by have := HN.out; omega), List.getElem?_eq_getElem _⟩
      obtain ⟨p1, p3⟩ := (HD.out.keep hwr) k r hr
      obtain ⟨z1, z2⟩ := HZ.out k r hr
      have HK : Hid (M.take (k + 1) = M.take k ++ [r]) := take_hdr hr
      have hlk : (valsOf q (M.take k)).length ≤ 20 := Nat.le_trans (valsOf_len _ _) (by rw [List.length_take]; omega)
      have gk : (k : Int) < m := by omega
      clear hr HD HZ hwr
      have KY := @valsOf_yes q r (M.take k)
      have KN := @valsOf_no q r (M.take k)
      obtain ⟨rn, rv⟩ := r
      simp only at p1 p3 z1 z2 KY KN
      have SN := fun w => smallName_any rn w (by omega)
      have HSN : Hid (∀ w, Calls Tryz.prog 91 #[.string rn] w fun e w' => e = .returned (.string (lowS rn)) ∧ Below w.heap.size w w') := SN
      clear SN
      by_cases he : lowS rn = q
      · have HX : Hid (valsOf q (M.take (k + 1)) = valsOf q (M.take k) ++ [rv]) := by show _ = _; rw [HK.out]; exact KY he
        rw [he] at HSN
        clear KY KN HK he
        generalize valsOf q (M.take k) = L at *
        go_wp2_with fail
        refine (HSN.out _).mono ?_
        rintro e w4 ⟨rfl, hb4⟩
        obtain ⟨hz4, c0, c1, kb⟩ := hdr_room hb4
        have HO4 : Hid (OwnS w4 (w.heap.size + 1) u9 L) := HO.out.below kb
        have HB4 : Hid (Below (w.heap.size + 1) (w.alloc (.cells #[.int .i64 0, .string ⟨#[]⟩] 50)) w4) := hb.trans (kb.mono hz)
        have hz5 : w.heap.size + 1 ≤ w4.heap.size := Nat.le_trans hz kb.size
        clear hb4 kb hb HO p1 p3
        go_wp2_with (at_builtin; refine wpList_append_str _ rfl (.tmp 44) (.tmp 47) rfl (w.heap.size + 1) _ L rv rfl rfl HO4.out (by omega) hz5 ?_; intro v6 w6 HO6 hb6 hz6)
        go_roundw
        case rel => exact ⟨k + 1, by omega, by go_num, by rw [HX.out]; exact HO6, HB4.out.trans hb6⟩
        case measure => simp [intOf]; omega
      · have HX : Hid (valsOf q (M.take (k + 1)) = valsOf q (M.take k)) := by show _ = _; rw [HK.out]; exact KN he
        have hq := hstr_ne he
        clear KY KN HK he
        generalize lowS rn = q2 at *
        generalize valsOf q (M.take k) = L at *
        go_wp2_with fail
        refine (HSN.out _).mono ?_
        rintro e w4 ⟨rfl, hb4⟩
        obtain ⟨hz4, c0, c1, kb⟩ := hdr_room hb4
        have HO4 : Hid (OwnS w4 (w.heap.size + 1) u9 L) := HO.out.below kb
        have HB4 : Hid (Below (w.heap.size + 1) (w.alloc (.cells #[.int .i64 0, .string ⟨#[]⟩] 50)) w4) := hb.trans (kb.mono hz)
        clear hb4 kb hb HO p1 p3
        go_wp2_with fail
        go_roundw
        case rel => exact ⟨k + 1, by omega, by go_num, by rw [HX.out]; exact HO4.out, HB4.out⟩
        case measure => simp [intOf]; omega
    · have ek : M.take k = M := List.take_of_length_le (by have := HN.out; omega)
      have HO2 := HO.out
      rw [ek, HV.out] at HO2
      have HJ := join_own wr _ u9 _ HO2 (by omega) (by show (hjoinL (valsOf q l)).length ≤ _; omega)
      have HT : Hid ((⟨(hjoinL (valsOf q l)).toArray⟩ : ByteArray).size ≤ 4040) := by show _ ≤ _; simpa [ByteArray.size] using hJL
      have HJ2 : Hid (Calls Tryz.prog 97 #[u9, .string ⟨#[44, 32]⟩] wr fun e w' => e = .returned (.string ⟨(hjoinL (valsOf q l)).toArray⟩) ∧ Below wr.heap.size wr w') := HJ
      obtain ⟨jt, HJT⟩ : ∃ jt, Hid ((⟨(hjoinL (valsOf q l)).toArray⟩ : ByteArray) = jt) := ⟨_, rfl⟩
      rw [HJT.out] at HT HJ2
      have hjt := HT.out
      have HBr : Hid (Below (w.heap.size + 1) (w.alloc (.cells #[.int .i64 0, .string ⟨#[]⟩] 50)) wr) := hb
      clear HT HJ HO2 HO ek hwr hb HD HZ
      go_wp2_with fail
      refine HJ2.out.mono ?_
      rintro e w4 ⟨rfl, hb4⟩
      go_wp2_with fail
      refine (hclone_any jt _ (by omega)).mono ?_
      rintro e w5 ⟨rfl, hb5⟩
      obtain ⟨hz6, q0, q1, f0, f1, kb⟩ := text_room (HBr.out.trans ((hb4.trans (hb5.mono hb4.size)).mono hz))
      obtain ⟨r0, r1⟩ := two_set (v0 := .int .i64 0) (v1 := .string jt) q0 q1
      clear hb4 hb5 HJ2 HBr
      go_wp2_with fail
      exact bodyPost_ret (v := .agg #[.int .i64 0, .string jt]) (by simp [results, Tryz.results92, go_sem, r0, r1]) rfl ⟨by rw [HJT.out], (kb.setCell (Nat.le_refl _) _).setCell (Nat.le_refl _) _⟩
set_option maxRecDepth 100000 in
set_option maxHeartbeats 4000000 in
theorem implJoin_any (w : World) (a : Option Addr) (cap : Nat) (l : List Hdr) (name : ByteArray) (hl : l.length ≤ 1048576) (hcap : l.length ≤ cap) (hset : SetIs w) (hi : HdsIn w a l) :
    Calls Tryz.prog 92 #[.slice a l.length cap, .string name] w fun e w' => e = .returned (.agg #[.int .i64 (joinC l name), .string (joinT l name)]) ∧ Below w.heap.size w w' := by
  have HA : Hid (∀ W, Below w.heap.size w W → Calls Tryz.prog 134 #[.slice a l.length cap, .string name] W fun e w' => e = .returned (.int .i64 (askC l name)) ∧ Below W.heap.size W w') := fun W hb => namedFault_any W a cap l name hl (hset.below hb) (hi.keep hb)
  by_cases h0 : askC l name = 0
  · cases hf : firstAt (lowS name) l with
    | some i =>
      have hv : ¬ valsOf (lowS name) l = [] := fun e => by rw [valsOf_first.1 e] at hf; cases hf
      rw [(join_some h0 hv).1, (join_some h0 hv).2]
      have hil := firstAt_lt hf
      rcases hi with h | ⟨b, off, rfl, hat⟩
      · subst h; simp at hil
      · exact implJoin_found w b off cap l name i h0 hf hcap hset hat
    | none =>
      have hv : valsOf (lowS name) l = [] := valsOf_first.2 hf
      rw [(join_none h0 hv).1, (join_none h0 hv).2]
      obtain ⟨h20, hz, hnm⟩ := asked h0
      have HP : Hid (∀ W, Below w.heap.size w W → Calls Tryz.prog 135 #[.slice a l.length cap] W fun e w' => e = .returned (.map (some W.heap.size)) ∧ NamesMap w' W.heap.size 20 (fun x => firstAt x l) ∧ Below W.heap.size W w') := fun W hb => firstPlaces_any W a cap l h20 (fun i r hr => (hz i r hr).1) (hi.keep hb)
      have HS : Hid (∀ W, Calls Tryz.prog 91 #[.string name] W fun e w' => e = .returned (.string (lowS name)) ∧ Below W.heap.size W w') := fun W => smallName_any name W (by omega)
      have HF : Hid (firstAt (lowS name) l = none) := hf
      have sz := lowS_size name
      rw [h0] at HA
      clear hi hz h0 h20 hset hf hv
      generalize l.length = n at *
      generalize lowS name = q at *
      go_enter Tryz.func92, Tryz.ntmps92
      go_wp2_with fail
      refine (HA.out _ ((Below.refl _ _).alloc (Nat.le_refl _) _)).mono ?_
      rintro e w1 ⟨rfl, hb1⟩
      rw [World.size_alloc] at hb1
      have HB1 : Hid (Below (w.heap.size + 1) (w.alloc (.cells #[.int .i64 0, .string ⟨#[]⟩] 50)) w1) := hb1
      have hz1 : w.heap.size + 1 ≤ w1.heap.size := by have := hb1.size; rwa [World.size_alloc] at this
      clear hb1 HA
      go_wp2_with fail
      refine (HS.out _).mono ?_
      rintro e w2 ⟨rfl, hb2⟩
      have HB2 : Hid (Below (w.heap.size + 1) (w.alloc (.cells #[.int .i64 0, .string ⟨#[]⟩] 50)) w2) := HB1.out.trans (hb2.mono hz1)
      have hz2 : w.heap.size + 1 ≤ w2.heap.size := Nat.le_trans hz1 hb2.size
      clear hb2 HB1 HS hz1
      go_wp2_with fail
      refine (HP.out _ (text_room HB2.out).2.2.2.2.2).mono ?_
      rintro e w3 ⟨rfl, hm3, hb3⟩
      obtain ⟨hz3, q0, q1, f0, f1, kb⟩ := text_room (HB2.out.trans (hb3.mono hz2))
      obtain ⟨r0, r1⟩ := two_set (v0 := .int .i64 4) (v1 := .string ⟨#[]⟩) q0 q1
      have HM3 : Hid (NamesMap w3 w2.heap.size 20 (fun x => firstAt x l)) := hm3
      clear hb3 HB2 hm3 HP hz2
      generalize w2.heap.size = B at *
      try clear w2
      go_wp2_with (at_lookup; refine wpList_look_none _ rfl _ _ rfl B 20 _ rfl HM3.out q rfl (by omega) HF.out ?_)
      exact bodyPost_ret (v := .agg #[.int .i64 4, .string ⟨#[]⟩]) (by simp [results, Tryz.results92, go_sem, r0, r1]) rfl ⟨rfl, (kb.setCell (Nat.le_refl _) _).setCell (Nat.le_refl _) _⟩
  · rw [(join_bad h0).1, (join_bad h0).2]
    clear hi hset
    generalize askC l name = fc at *
    generalize l.length = n at *
    go_enter Tryz.func92, Tryz.ntmps92
    go_wp2_with fail
    refine (HA.out _ ((Below.refl _ _).alloc (Nat.le_refl _) _)).mono ?_
    rintro e w1 ⟨rfl, hb1⟩
    rw [World.size_alloc] at hb1
    obtain ⟨hz2, q0, q1, f0, f1, kb⟩ := text_room hb1
    obtain ⟨r0, r1⟩ := two_set (v0 := .int .i64 fc) (v1 := .string ⟨#[]⟩) q0 q1
    clear hb1 HA
    go_wp2_with fail
    exact bodyPost_ret (v := .agg #[.int .i64 fc, .string ⟨#[]⟩]) (by simp [results, Tryz.results92, go_sem, r0, r1]) rfl ⟨rfl, (kb.setCell (Nat.le_refl _) _).setCell (Nat.le_refl _) _⟩
end Go.Proofs.YtojcjpdgjohldaaGreatDoor
/-
  Requests and responses as bytes, plainly. No Go in sight.
-/
namespace Go.Proofs.YtojcjpdgjohldaaGreatDoor
def hostT : ByteArray := ⟨#[72, 111, 115, 116]⟩
theorem hostT_low : lowS hostT = hostN := by decide +kernel
theorem hostN_low : lowS hostN = hostN := by decide +kernel
theorem hostT_word : wordS hostT = true := by decide +kernel
theorem trim_plain (s : ByteArray) (h : ∀ c ∈ s.data.toList, blankI (c.toNat : Int) = false) : trimT s = s := by
  have e := trim_between s.data.toList 0 s.data.toList.length (Nat.zero_le _) (Nat.le_refl _) (fun j b hj _ => absurd hj (by omega)) (fun b _ hb => h b (List.mem_of_getElem? hb))
    (fun j b hj hb => absurd (List.getElem?_eq_some_iff.1 hb).1 (by omega)) (fun b _ hb => h b (List.mem_of_getElem? hb))
  unfold trimT
  rw [e, List.take_length, List.drop_zero]
theorem hostI_plain (c : Int) (h : hostI c = true) : blankI c = false ∧ plainI c = true := by
  simp only [hostI, Bool.or_eq_true, Bool.and_eq_true, decide_eq_true_eq] at h
  constructor
  · simp [blankI]; omega
  · simp [plainI]; omega
theorem hostS_true {h : ByteArray} (hs : hostS h = true) : 1 ≤ h.size ∧ h.size ≤ 60 ∧ ∀ c ∈ h.data.toList, hostI (c.toNat : Int) = true := by
  simp only [hostS, Bool.and_eq_true, decide_eq_true_eq] at hs
  exact ⟨hs.1.1, hs.1.2, allP_mem hs.2⟩
theorem host_line {h : ByteArray} (hs : hostS h = true) : faultH ⟨hostT, h⟩ = 0 := by
  obtain ⟨h1, h2, h3⟩ := hostS_true hs
  unfold faultH
  rw [if_neg (by rw [hostT_word]; decide), if_neg (by simp only; omega), if_neg ?_, if_pos ?_]
  · exact trim_plain h fun c hc => (hostI_plain _ (h3 c hc)).1
  · have : plainL h.data.toList = true := List.all_eq_true.2 fun c hc => (hostI_plain _ (h3 c hc)).2
    simp only [this]; decide
theorem host_heads {h : ByteArray} {l : List Hdr} (hs : hostS h = true) (h0 : headsC l = 0) (hl : l.length < 20) : headsC (⟨hostT, h⟩ :: l) = 0 := by
  rw [headsC_few (by simp only [List.length_cons]; omega), faultHL_ok (host_line hs)]
  rw [headsC_few (by omega)] at h0
  exact h0
def verL : List UInt8 := [72, 84, 84, 80, 47, 49, 46, 49]
def reqL (m h p : ByteArray) (l : List Hdr) : List UInt8 := m.data.toList ++ [32] ++ p.data.toList ++ [32] ++ verL ++ [13, 10] ++ packL (⟨hostT, h⟩ :: l) ++ [13, 10]
def reqB (m h p : ByteArray) (l : List Hdr) : List UInt8 := if reqC m h p l = 0 then reqL m h p l else []
theorem packL_len {l : List Hdr} (h : headsC l = 0) : (packL l).length ≤ 268 * l.length := by
  have h2 := (headsC_zero h).2
  have : ∀ l : List Hdr, (∀ r ∈ l, faultH r = 0) → (packL l).length ≤ 268 * l.length := fun l => by
    induction l with
    | nil => intro _; simp [packL]
    | cons r l ih =>
      intro hh
      have a := lineL_len (hh r (by simp))
      have b := ih fun x hx => hh x (by simp [hx])
      simp only [packL, List.flatMap_cons, List.length_append, List.length_cons] at b ⊢
      omega
  refine this l fun r hr => ?_
  obtain ⟨i, hi⟩ := List.getElem?_of_mem hr
  exact h2 i r hi
theorem packL_cons (r : Hdr) (l : List Hdr) : packL (r :: l) = lineL r ++ packL l := by simp [packL]
end Go.Proofs.YtojcjpdgjohldaaGreatDoor
/-
  What RequestFault and its model answer.
-/
namespace Go.Proofs.YtojcjpdgjohldaaGreatDoor
open Go.ChangeShapes Go.WideShapes Go.ChangeAt Go.RowKit
theorem heads_sizes {l : List Hdr} (h : headsC l = 0) : l.length ≤ 20 ∧ ∀ (i : Nat) r, l[i]? = some r → r.name.size ≤ 64 ∧ r.value.size ≤ 200 := by
  obtain ⟨h1, h2⟩ := headsC_zero h
  refine ⟨h1, fun i r hr => ?_⟩
  obtain ⟨a, b, _⟩ := faultH_zero (h2 i r hr)
  exact ⟨hword_max a, b⟩
theorem lit_ne {m : ByteArray} {l : List UInt8} (h : ¬ m = ⟨l.toArray⟩) : (m.toList == l) = false := by
  rw [beq_eq_false_iff_ne, ByteArray.toList_eq]
  intro e
  apply h
  rw [← e]
theorem anyV_nil {vs : List ByteArray} (h : vs = []) : anyV vs = false := by subst h; rfl
theorem anyV_some {vs : List ByteArray} (h : vs ≠ []) : anyV vs = true := by simpa [anyV] using h
/-- A request, boxed. -/
def rqV (m h p : ByteArray) (a : Option Addr) (n cap : Nat) : Value := .agg #[.string m, .string h, .string p, .slice a n cap]
theorem reqJoin {l : List Hdr} (h : headsC l = 0) : (valsOf hostN l ≠ [] → joinC l ⟨#[72, 111, 115, 116]⟩ = 0) ∧ (valsOf hostN l = [] → joinC l ⟨#[72, 111, 115, 116]⟩ = 4) := by
  have e0 : askC l hostT = 0 := askC_word h hostT_word
  refine ⟨fun hv => ?_, fun hv => ?_⟩
  · exact (join_some e0 (by rw [hostT_low]; exact hv)).1
  · exact (join_none e0 (by rw [hostT_low]; exact hv)).1
set_option maxHeartbeats 4000000 in
theorem specReq_get (w : World) (h p : ByteArray) (a : Option Addr) (cap : Nat) (l : List Hdr) (hl : l.length ≤ 1048576) (hi : HdsIn w a l) :
    Calls Tryz.prog 17 #[.agg #[.string ⟨#[71, 69, 84]⟩, .string h, .string p, .slice a l.length cap]] w fun e w' => e = .returned (.int .i64 (reqC ⟨#[71, 69, 84]⟩ h p l)) ∧ Below w.heap.size w w' := by
  have HM : methS ⟨#[71, 69, 84]⟩ = true := by decide +kernel
  have CH := fun W => l5Host_any h W
  have CP := fun W => l5Path_any p W
  have bW : Below w.heap.size w (w.alloc (.cells #[.string ⟨#[71, 69, 84]⟩, .string h, .string p, .slice a l.length cap] 26)) := (Below.refl _ _).alloc (Nat.le_refl _) _
  cases ch : hostS h
  · have HE : Hid (reqC ⟨#[71, 69, 84]⟩ h p l = 5) := reqC_bad (by simp [lineS, ch])
    simp only [ch] at CH
    have HB : Hid (Below w.heap.size w (w.alloc (.cells #[.string ⟨#[71, 69, 84]⟩, .string h, .string p, .slice a l.length cap] 26))) := bW
    clear bW HM hi ch CP
    go_enter Tryz.func17, Tryz.ntmps17
    go_wp2_with (go_at_call 67; refine (CH _).mono ?_; rintro e w' ⟨rfl, rfl⟩)
    go_ret
    exact ⟨ret_int HE.out.symm, HB.out⟩
  simp only [ch] at CH
  cases cp : pathS p
  · have HE : Hid (reqC ⟨#[71, 69, 84]⟩ h p l = 5) := reqC_bad (by simp [lineS, cp])
    simp only [cp] at CP
    have HB : Hid (Below w.heap.size w (w.alloc (.cells #[.string ⟨#[71, 69, 84]⟩, .string h, .string p, .slice a l.length cap] 26))) := bW
    clear bW HM hi ch cp
    go_enter Tryz.func17, Tryz.ntmps17
    go_wp2_with (first | (go_at_call 67; refine (CH _).mono ?_; rintro e w' ⟨rfl, rfl⟩) | (go_at_call 68; refine (CP _).mono ?_; rintro e w' ⟨rfl, rfl⟩))
    go_ret
    exact ⟨ret_int HE.out.symm, HB.out⟩
  simp only [cp] at CP
  have hls : lineS ⟨#[71, 69, 84]⟩ h p = true := by simp [lineS, HM, ch, cp]
  have HR : Hid (reqC ⟨#[71, 69, 84]⟩ h p l = restC l) := reqC_ok hls
  obtain ⟨W, hW⟩ : ∃ W, W = w.alloc (.cells #[.string ⟨#[71, 69, 84]⟩, .string h, .string p, .slice a l.length cap] 26) := ⟨_, rfl⟩
  have HW : Hid (W = w.alloc (.cells #[.string ⟨#[71, 69, 84]⟩, .string h, .string p, .slice a l.length cap] 26)) := hW
  have hc3 : W.cell? ⟨w.heap.size, 3, none⟩ = some (.slice a l.length cap) := by rw [hW, World.cell?_alloc_mark]; rfl
  rw [← hW] at bW
  have hlt : w.heap.size < W.heap.size := by rw [hW]; simp
  have CF := specHFault_any W a cap l hl (hi.keep bW)
  have HI : Hid (HdsIn w a l) := hi
  have HB : Hid (Below w.heap.size w W) := bW
  clear hi bW hW ch cp hls HM
  go_enter Tryz.func17, Tryz.ntmps17
  go_wp2_with (first | (go_at_call 67; refine (CH _).mono ?_; rintro e w' ⟨rfl, rfl⟩) | (go_at_call 68; refine (CP _).mono ?_; rintro e w' ⟨rfl, rfl⟩))
  rw [← HW.out]
  refine CF.mono ?_
  rintro e w1 ⟨rfl, hb1⟩
  clear CF CH CP HW
  have hc3' : w1.cell? ⟨w.heap.size, 3, none⟩ = some (.slice a l.length cap) := by rw [hb1.cell (p := ⟨w.heap.size, 3, none⟩) hlt]; exact hc3
  have HB1 : Hid (Below w.heap.size w w1) := HB.out.trans (hb1.mono HB.out.size)
  have hlt1 : w.heap.size < w1.heap.size := Nat.lt_of_lt_of_le hlt hb1.size
  clear hb1 hc3 hlt HB
  by_cases c0 : headsC l = 0
  · obtain ⟨s1, s2⟩ := heads_sizes c0
    have CJ := l4Join_any w1 a cap l hostN s1 s2 (by decide) (HI.out.keep HB1.out)
    rw [hostN_low] at CJ
    have HJ : Hid (Calls Tryz.prog 70 #[.slice a l.length cap, .string ⟨#[104, 111, 115, 116]⟩] w1 fun e w' => e = .returned (.tuple #[.string ⟨(hjoinL (valsOf hostN l)).toArray⟩, .bool (anyV (valsOf hostN l))]) ∧ Below w1.heap.size w1 w') := CJ
    have HE1 : Hid (valsOf hostN l ≠ [] → restC l = 6) := fun hv => restC_host c0 hv
    have HE2 : Hid (valsOf hostN l = [] → 20 ≤ l.length → restC l = 2) := fun hv hn => restC_many c0 hv hn
    have HE3 : Hid (valsOf hostN l = [] → ¬ 20 ≤ l.length → restC l = 0) := fun hv hn => restC_ok c0 hv hn
    rw [c0]
    clear c0 s2 CJ HI
    generalize (⟨(hjoinL (valsOf hostN l)).toArray⟩ : ByteArray) = t at *
    go_wp2_with fail
    refine HJ.out.mono ?_
    rintro e w2 ⟨rfl, hb2⟩
    have hc4 : w2.cell? ⟨w.heap.size, 3, none⟩ = some (.slice a l.length cap) := by rw [hb2.cell (p := ⟨w.heap.size, 3, none⟩) hlt1]; exact hc3'
    have HB2 : Hid (Below w.heap.size w w2) := HB1.out.trans (hb2.mono HB1.out.size)
    clear hb2 HJ hc3' hlt1
    by_cases cv : valsOf hostN l = []
    · rw [anyV_nil cv]
      by_cases cn : 20 ≤ l.length
      · have HE : Hid (reqC ⟨#[71, 69, 84]⟩ h p l = 2) := by show _ = _; rw [HR.out]; exact HE2.out cv cn
        have cn' : (20 : Int) ≤ l.length := by omega
        clear HE1 HE2 HE3 HR cv cn
        generalize l.length = n at *
        go_wp2_with fail
        go_ret
        exact ⟨ret_int HE.out.symm, HB2.out⟩
      · have HE : Hid (reqC ⟨#[71, 69, 84]⟩ h p l = 0) := by show _ = _; rw [HR.out]; exact HE3.out cv cn
        have cn' : ¬ (20 : Int) ≤ l.length := by omega
        clear HE1 HE2 HE3 HR cv cn
        generalize l.length = n at *
        go_wp2_with fail
        go_ret
        exact ⟨ret_int HE.out.symm, HB2.out⟩
    · rw [anyV_some cv]
      have HE : Hid (reqC ⟨#[71, 69, 84]⟩ h p l = 6) := by show _ = _; rw [HR.out]; exact HE1.out cv
      clear HE1 HE2 HE3 HR cv
      go_wp2_with fail
      go_ret
      exact ⟨ret_int HE.out.symm, HB2.out⟩
  · have HE : Hid (reqC ⟨#[71, 69, 84]⟩ h p l = headsC l) := by show _ = _; rw [HR.out]; exact restC_heads c0
    clear HR HI
    generalize headsC l = c at *
    go_wp2_with fail
    go_ret
    exact ⟨ret_int HE.out.symm, HB1.out⟩
set_option maxHeartbeats 4000000 in
theorem specReq_head (w : World) (h p : ByteArray) (a : Option Addr) (cap : Nat) (l : List Hdr) (hl : l.length ≤ 1048576) (hi : HdsIn w a l) :
    Calls Tryz.prog 17 #[.agg #[.string ⟨#[72, 69, 65, 68]⟩, .string h, .string p, .slice a l.length cap]] w fun e w' => e = .returned (.int .i64 (reqC ⟨#[72, 69, 65, 68]⟩ h p l)) ∧ Below w.heap.size w w' := by
  have HM : methS ⟨#[72, 69, 65, 68]⟩ = true := by decide +kernel
  have CH := fun W => l5Host_any h W
  have CP := fun W => l5Path_any p W
  have bW : Below w.heap.size w (w.alloc (.cells #[.string ⟨#[72, 69, 65, 68]⟩, .string h, .string p, .slice a l.length cap] 26)) := (Below.refl _ _).alloc (Nat.le_refl _) _
  cases ch : hostS h
  · have HE : Hid (reqC ⟨#[72, 69, 65, 68]⟩ h p l = 5) := reqC_bad (by simp [lineS, ch])
    simp only [ch] at CH
    have HB : Hid (Below w.heap.size w (w.alloc (.cells #[.string ⟨#[72, 69, 65, 68]⟩, .string h, .string p, .slice a l.length cap] 26))) := bW
    clear bW HM hi ch CP
    go_enter Tryz.func17, Tryz.ntmps17
    go_wp2_with (go_at_call 67; refine (CH _).mono ?_; rintro e w' ⟨rfl, rfl⟩)
    go_ret
    exact ⟨ret_int HE.out.symm, HB.out⟩
  simp only [ch] at CH
  cases cp : pathS p
  · have HE : Hid (reqC ⟨#[72, 69, 65, 68]⟩ h p l = 5) := reqC_bad (by simp [lineS, cp])
    simp only [cp] at CP
    have HB : Hid (Below w.heap.size w (w.alloc (.cells #[.string ⟨#[72, 69, 65, 68]⟩, .string h, .string p, .slice a l.length cap] 26))) := bW
    clear bW HM hi ch cp
    go_enter Tryz.func17, Tryz.ntmps17
    go_wp2_with (first | (go_at_call 67; refine (CH _).mono ?_; rintro e w' ⟨rfl, rfl⟩) | (go_at_call 68; refine (CP _).mono ?_; rintro e w' ⟨rfl, rfl⟩))
    go_ret
    exact ⟨ret_int HE.out.symm, HB.out⟩
  simp only [cp] at CP
  have hls : lineS ⟨#[72, 69, 65, 68]⟩ h p = true := by simp [lineS, HM, ch, cp]
  have HR : Hid (reqC ⟨#[72, 69, 65, 68]⟩ h p l = restC l) := reqC_ok hls
  obtain ⟨W, hW⟩ : ∃ W, W = w.alloc (.cells #[.string ⟨#[72, 69, 65, 68]⟩, .string h, .string p, .slice a l.length cap] 26) := ⟨_, rfl⟩
  have HW : Hid (W = w.alloc (.cells #[.string ⟨#[72, 69, 65, 68]⟩, .string h, .string p, .slice a l.length cap] 26)) := hW
  have hc3 : W.cell? ⟨w.heap.size, 3, none⟩ = some (.slice a l.length cap) := by rw [hW, World.cell?_alloc_mark]; rfl
  rw [← hW] at bW
  have hlt : w.heap.size < W.heap.size := by rw [hW]; simp
  have CF := specHFault_any W a cap l hl (hi.keep bW)
  have HI : Hid (HdsIn w a l) := hi
  have HB : Hid (Below w.heap.size w W) := bW
  clear hi bW hW ch cp hls HM
  go_enter Tryz.func17, Tryz.ntmps17
  go_wp2_with (first | (go_at_call 67; refine (CH _).mono ?_; rintro e w' ⟨rfl, rfl⟩) | (go_at_call 68; refine (CP _).mono ?_; rintro e w' ⟨rfl, rfl⟩))
  rw [← HW.out]
  refine CF.mono ?_
  rintro e w1 ⟨rfl, hb1⟩
  clear CF CH CP HW
  have hc3' : w1.cell? ⟨w.heap.size, 3, none⟩ = some (.slice a l.length cap) := by rw [hb1.cell (p := ⟨w.heap.size, 3, none⟩) hlt]; exact hc3
  have HB1 : Hid (Below w.heap.size w w1) := HB.out.trans (hb1.mono HB.out.size)
  have hlt1 : w.heap.size < w1.heap.size := Nat.lt_of_lt_of_le hlt hb1.size
  clear hb1 hc3 hlt HB
  by_cases c0 : headsC l = 0
  · obtain ⟨s1, s2⟩ := heads_sizes c0
    have CJ := l4Join_any w1 a cap l hostN s1 s2 (by decide) (HI.out.keep HB1.out)
    rw [hostN_low] at CJ
    have HJ : Hid (Calls Tryz.prog 70 #[.slice a l.length cap, .string ⟨#[104, 111, 115, 116]⟩] w1 fun e w' => e = .returned (.tuple #[.string ⟨(hjoinL (valsOf hostN l)).toArray⟩, .bool (anyV (valsOf hostN l))]) ∧ Below w1.heap.size w1 w') := CJ
    have HE1 : Hid (valsOf hostN l ≠ [] → restC l = 6) := fun hv => restC_host c0 hv
    have HE2 : Hid (valsOf hostN l = [] → 20 ≤ l.length → restC l = 2) := fun hv hn => restC_many c0 hv hn
    have HE3 : Hid (valsOf hostN l = [] → ¬ 20 ≤ l.length → restC l = 0) := fun hv hn => restC_ok c0 hv hn
    rw [c0]
    clear c0 s2 CJ HI
    generalize (⟨(hjoinL (valsOf hostN l)).toArray⟩ : ByteArray) = t at *
    go_wp2_with fail
    refine HJ.out.mono ?_
    rintro e w2 ⟨rfl, hb2⟩
    have hc4 : w2.cell? ⟨w.heap.size, 3, none⟩ = some (.slice a l.length cap) := by rw [hb2.cell (p := ⟨w.heap.size, 3, none⟩) hlt1]; exact hc3'
    have HB2 : Hid (Below w.heap.size w w2) := HB1.out.trans (hb2.mono HB1.out.size)
    clear hb2 HJ hc3' hlt1
    by_cases cv : valsOf hostN l = []
    · rw [anyV_nil cv]
      by_cases cn : 20 ≤ l.length
      · have HE : Hid (reqC ⟨#[72, 69, 65, 68]⟩ h p l = 2) := by show _ = _; rw [HR.out]; exact HE2.out cv cn
        have cn' : (20 : Int) ≤ l.length := by omega
        clear HE1 HE2 HE3 HR cv cn
        generalize l.length = n at *
        go_wp2_with fail
        go_ret
        exact ⟨ret_int HE.out.symm, HB2.out⟩
      · have HE : Hid (reqC ⟨#[72, 69, 65, 68]⟩ h p l = 0) := by show _ = _; rw [HR.out]; exact HE3.out cv cn
        have cn' : ¬ (20 : Int) ≤ l.length := by omega
        clear HE1 HE2 HE3 HR cv cn
        generalize l.length = n at *
        go_wp2_with fail
        go_ret
        exact ⟨ret_int HE.out.symm, HB2.out⟩
    · rw [anyV_some cv]
      have HE : Hid (reqC ⟨#[72, 69, 65, 68]⟩ h p l = 6) := by show _ = _; rw [HR.out]; exact HE1.out cv
      clear HE1 HE2 HE3 HR cv
      go_wp2_with fail
      go_ret
      exact ⟨ret_int HE.out.symm, HB2.out⟩
  · have HE : Hid (reqC ⟨#[72, 69, 65, 68]⟩ h p l = headsC l) := by show _ = _; rw [HR.out]; exact restC_heads c0
    clear HR HI
    generalize headsC l = c at *
    go_wp2_with fail
    go_ret
    exact ⟨ret_int HE.out.symm, HB1.out⟩
set_option maxHeartbeats 1000000 in
theorem specReq_any (w : World) (m h p : ByteArray) (a : Option Addr) (cap : Nat) (l : List Hdr) (hl : l.length ≤ 1048576) (hi : HdsIn w a l) :
    Calls Tryz.prog 17 #[.agg #[.string m, .string h, .string p, .slice a l.length cap]] w fun e w' => e = .returned (.int .i64 (reqC m h p l)) ∧ Below w.heap.size w w' := by
  by_cases c1 : m = ⟨#[71, 69, 84]⟩
  · subst c1; exact specReq_get w h p a cap l hl hi
  by_cases c2 : m = ⟨#[72, 69, 65, 68]⟩
  · subst c2; exact specReq_head w h p a cap l hl hi
  have HE : Hid (reqC m h p l = 5) := reqC_bad (by
    have : methS m = false := by simp only [methS, getT, headT, c1, c2, decide_false]; rfl
    simp [lineS, this])
  have d1 : (m.toList == [71, 69, 84]) = false := lit_ne c1
  have d2 : (m.toList == [72, 69, 65, 68]) = false := lit_ne c2
  clear c1 c2
  clear hi
  go_enter Tryz.func17, Tryz.ntmps17
  go_wp2_with fail
  go_ret
  exact ⟨ret_int HE.out.symm, (Below.refl _ _).alloc (Nat.le_refl _) _⟩
set_option maxHeartbeats 8000000 in
theorem implReq_get (E : Errs) (w : World) (h p : ByteArray) (a : Option Addr) (cap : Nat) (l : List Hdr) (hl : l.length ≤ 1048576) (hcap : l.length ≤ cap) (hps : p.size ≤ 1048576) (hset : SetIs w) (hE : ErrsIs w E) (hi : HdsIn w a l) :
    Calls Tryz.prog 72 #[.agg #[.string ⟨#[71, 69, 84]⟩, .string h, .string p, .slice a l.length cap]] w fun e w' => e = .returned (errV E (reqC ⟨#[71, 69, 84]⟩ h p l)) ∧ Below w.heap.size w w' := by
  have HM : methS ⟨#[71, 69, 84]⟩ = true := by decide +kernel
  obtain ⟨W, hW⟩ : ∃ W, W = w.alloc (.cells #[.string ⟨#[71, 69, 84]⟩, .string h, .string p, .slice a l.length cap] 26) := ⟨_, rfl⟩
  have bW : Below w.heap.size w W := by rw [hW]; exact (Below.refl _ _).alloc (Nat.le_refl _) _
  have HW : Hid (W = w.alloc (.cells #[.string ⟨#[71, 69, 84]⟩, .string h, .string p, .slice a l.length cap] 26)) := hW
  have hlt : w.heap.size < W.heap.size := by rw [hW]; simp
  have hc2 : W.cell? ⟨w.heap.size, 2, none⟩ = some (.string p) := by rw [hW, World.cell?_alloc_mark]; rfl
  have hc3 : W.cell? ⟨w.heap.size, 3, none⟩ = some (.slice a l.length cap) := by rw [hW, World.cell?_alloc_mark]; rfl
  clear hW
  have CH := isHost_any h W
  have HI : Hid (∀ X, Below w.heap.size w X → HdsIn X a l) := fun X hb => hi.keep hb
  have HS : Hid (∀ X, Below w.heap.size w X → SetIs X) := fun X hb => hset.below hb
  have HE0 : Hid (∀ X, Below w.heap.size w X → ErrsIs X E) := fun X hb => hE.below hb
  have HB : Hid (Below w.heap.size w W) := bW
  clear hi hset hE bW
  cases ch : hostS h
  · have HE : Hid (errV E (reqC ⟨#[71, 69, 84]⟩ h p l) = .iface 261 (.pointer (some E.u))) := by show _ = _; rw [reqC_bad (by simp [lineS, ch])]; rfl
    simp only [ch] at CH
    clear HM ch hc2 hc3 hlt
    go_enter Tryz.func72, Tryz.ntmps72
    go_wp2_with fail
    rw [← HW.out]
    refine CH.mono ?_
    rintro e w1 ⟨rfl, hb1⟩
    have HB1 : Hid (Below w.heap.size w w1) := HB.out.trans (hb1.mono HB.out.size)
    have gU := (HE0.out _ HB1.out).gU
    clear CH HW hb1 HB HE0
    go_wp2_with fail
    go_ret
    exact ⟨congrArg Ending.returned HE.out.symm, HB1.out⟩
  simp only [ch] at CH
  have CP : Hid (∀ X, Below w.heap.size w X → Calls Tryz.prog 122 #[.string p] X fun e w' => e = .returned (.bool (pathS p)) ∧ Below X.heap.size X w') := fun X hb => isPath_any p X (HS.out X hb) hps
  cases cp : pathS p
  · have HE : Hid (errV E (reqC ⟨#[71, 69, 84]⟩ h p l) = .iface 261 (.pointer (some E.u))) := by show _ = _; rw [reqC_bad (by simp [lineS, cp])]; rfl
    rw [cp] at CP
    clear HM ch cp hc3 hps
    go_enter Tryz.func72, Tryz.ntmps72
    go_wp2_with fail
    rw [← HW.out]
    refine CH.mono ?_
    rintro e w1 ⟨rfl, hb1⟩
    have HB1 : Hid (Below w.heap.size w w1) := HB.out.trans (hb1.mono HB.out.size)
    have hc2' : w1.cell? ⟨w.heap.size, 2, none⟩ = some (.string p) := by rw [hb1.cell (p := ⟨w.heap.size, 2, none⟩) hlt]; exact hc2
    clear CH HW hb1 HB hc2 hlt
    have C2 := CP.out w1 HB1.out
    go_wp2_with fail
    refine C2.mono ?_
    rintro e w2 ⟨rfl, hb2⟩
    have HB2 : Hid (Below w.heap.size w w2) := HB1.out.trans (hb2.mono HB1.out.size)
    have gU := (HE0.out _ HB2.out).gU
    clear C2 CP hb2 HB1 HE0 hc2'
    go_wp2_with fail
    go_ret
    exact ⟨congrArg Ending.returned HE.out.symm, HB2.out⟩
  rw [cp] at CP
  have hls : lineS ⟨#[71, 69, 84]⟩ h p = true := by simp [lineS, HM, ch, cp]
  have HR : Hid (reqC ⟨#[71, 69, 84]⟩ h p l = restC l) := reqC_ok hls
  have HK := headsC_codes l
  have CF : Hid (∀ X, Below w.heap.size w X → Calls Tryz.prog 111 #[.slice a l.length cap] X fun e w' => e = .returned (.int .i64 (headsC l)) ∧ Below X.heap.size X w') := fun X hb => implHFault_any X a cap l hl (HS.out X hb) (HI.out X hb)
  clear hls HM ch cp hps
  go_enter Tryz.func72, Tryz.ntmps72
  go_wp2_with fail
  rw [← HW.out]
  refine CH.mono ?_
  rintro e w1 ⟨rfl, hb1⟩
  have HB1 : Hid (Below w.heap.size w w1) := HB.out.trans (hb1.mono HB.out.size)
  have hc2' : w1.cell? ⟨w.heap.size, 2, none⟩ = some (.string p) := by rw [hb1.cell (p := ⟨w.heap.size, 2, none⟩) hlt]; exact hc2
  have hc3' : w1.cell? ⟨w.heap.size, 3, none⟩ = some (.slice a l.length cap) := by rw [hb1.cell (p := ⟨w.heap.size, 3, none⟩) hlt]; exact hc3
  have hlt1 : w.heap.size < w1.heap.size := Nat.lt_of_lt_of_le hlt hb1.size
  clear CH HW hb1 HB hc2 hc3 hlt
  have C2 := CP.out w1 HB1.out
  go_wp2_with fail
  refine C2.mono ?_
  rintro e w2 ⟨rfl, hb2⟩
  have HB2 : Hid (Below w.heap.size w w2) := HB1.out.trans (hb2.mono HB1.out.size)
  have hc3 : w2.cell? ⟨w.heap.size, 3, none⟩ = some (.slice a l.length cap) := by rw [hb2.cell (p := ⟨w.heap.size, 3, none⟩) hlt1]; exact hc3'
  have hlt2 : w.heap.size < w2.heap.size := Nat.lt_of_lt_of_le hlt1 hb2.size
  clear C2 CP hb2 HB1 hc2' hc3' hlt1
  have C3 := CF.out w2 HB2.out
  go_wp2_with fail
  refine C3.mono ?_
  rintro e w3 ⟨rfl, hb3⟩
  have HB3 : Hid (Below w.heap.size w w3) := HB2.out.trans (hb3.mono HB2.out.size)
  have hc3' : w3.cell? ⟨w.heap.size, 3, none⟩ = some (.slice a l.length cap) := by rw [hb3.cell (p := ⟨w.heap.size, 3, none⟩) hlt2]; exact hc3
  have hlt3 : w.heap.size < w3.heap.size := Nat.lt_of_lt_of_le hlt2 hb3.size
  clear C3 CF hb3 HB2 hc3 hlt2
  have C4 := headError_any E (headsC l) w3 (HE0.out _ HB3.out) HK
  by_cases c0 : headsC l = 0
  · rw [c0] at C4
    rw [errV0] at C4
    rw [c0]
    have CJ : Calls Tryz.prog 92 #[.slice a l.length cap, .string ⟨#[72, 111, 115, 116]⟩] w3 fun e w' => e = .returned (.agg #[.int .i64 (joinC l ⟨#[72, 111, 115, 116]⟩), .string (joinT l ⟨#[72, 111, 115, 116]⟩)]) ∧ Below w3.heap.size w3 w' := implJoin_any w3 a cap l ⟨#[72, 111, 115, 116]⟩ hl hcap (HS.out _ HB3.out) (HI.out _ HB3.out)
    obtain ⟨hj1, hj2⟩ := reqJoin c0
    have HJ : Hid (Calls Tryz.prog 92 #[.slice a l.length cap, .string ⟨#[72, 111, 115, 116]⟩] w3 fun e w' => e = .returned (.agg #[.int .i64 (joinC l ⟨#[72, 111, 115, 116]⟩), .string (joinT l ⟨#[72, 111, 115, 116]⟩)]) ∧ Below w3.heap.size w3 w') := CJ
    clear CJ
    generalize joinT l ⟨#[72, 111, 115, 116]⟩ = jt at *
    by_cases cv : valsOf hostN l = []
    · rw [hj2 cv] at HJ
      have HN := (headsC_zero c0).1
      clear hj1 hj2 HI HS HK
      by_cases cn : 20 ≤ l.length
      · have HE : Hid (errV E (reqC ⟨#[71, 69, 84]⟩ h p l) = .iface 261 (.pointer (some E.m))) := by show _ = _; rw [HR.out, restC_many c0 cv cn]; rfl
        have cn' : (l.length : Int) = 20 := by omega
        have cb : ((l.length : Int) == 20) = true := by rw [cn']; rfl
        clear HR cv cn cn' c0
        generalize l.length = n at *
        go_wp2_with fail
        refine C4.mono ?_
        rintro e w4 ⟨rfl, hw⟩
        obtain rfl := hw.symm
        clear C4 hw
        go_wp2_with fail
        refine HJ.out.mono ?_
        rintro e w5 ⟨rfl, hb5⟩
        have hc5 : w5.cell? ⟨w.heap.size, 3, none⟩ = some (.slice a n cap) := by rw [hb5.cell (p := ⟨w.heap.size, 3, none⟩) hlt3]; exact hc3'
        have HB5 : Hid (Below w.heap.size w w5) := HB3.out.trans (hb5.mono HB3.out.size)
        have gM := (HE0.out _ HB5.out).gM
        clear hb5 HJ hc3' hlt3 HB3 HE0
        have hfc := f_field_code
        go_wp2_with fail
        go_ret
        exact ⟨congrArg Ending.returned HE.out.symm, HB5.out⟩
      · have HE : Hid (errV E (reqC ⟨#[71, 69, 84]⟩ h p l) = .nilIface) := by show _ = _; rw [HR.out, restC_ok c0 cv cn]; rfl
        have cb : ((l.length : Int) == 20) = false := by rw [beq_eq_false_iff_ne]; omega
        clear HR cv cn c0 HE0
        generalize l.length = n at *
        go_wp2_with fail
        refine C4.mono ?_
        rintro e w4 ⟨rfl, hw⟩
        obtain rfl := hw.symm
        clear C4 hw
        go_wp2_with fail
        refine HJ.out.mono ?_
        rintro e w5 ⟨rfl, hb5⟩
        have hc5 : w5.cell? ⟨w.heap.size, 3, none⟩ = some (.slice a n cap) := by rw [hb5.cell (p := ⟨w.heap.size, 3, none⟩) hlt3]; exact hc3'
        have HB5 : Hid (Below w.heap.size w w5) := HB3.out.trans (hb5.mono HB3.out.size)
        clear hb5 HJ hc3' hlt3 HB3
        have hfc := f_field_code
        go_wp2_with fail
        go_ret
        exact ⟨congrArg Ending.returned HE.out.symm, HB5.out⟩
    · rw [hj1 cv] at HJ
      have HE : Hid (errV E (reqC ⟨#[71, 69, 84]⟩ h p l) = .iface 261 (.pointer (some E.d))) := by show _ = _; rw [HR.out, restC_host c0 cv]; rfl
      clear hj1 hj2 HI HS HK HR cv c0
      generalize l.length = n at *
      go_wp2_with fail
      refine C4.mono ?_
      rintro e w4 ⟨rfl, hw⟩
      obtain rfl := hw.symm
      clear C4 hw
      go_wp2_with fail
      refine HJ.out.mono ?_
      rintro e w5 ⟨rfl, hb5⟩
      have HB5 : Hid (Below w.heap.size w w5) := HB3.out.trans (hb5.mono HB3.out.size)
      have gD := (HE0.out _ HB5.out).gD
      clear hb5 HJ hc3' hlt3 HB3 HE0
      have hfc := f_field_code
      go_wp2_with fail
      go_ret
      exact ⟨congrArg Ending.returned HE.out.symm, HB5.out⟩
  · have HE : Hid (errV E (reqC ⟨#[71, 69, 84]⟩ h p l) = errV E (headsC l)) := by show _ = _; rw [HR.out, restC_heads c0]
    have hv : ∃ x, errV E (headsC l) = .iface 261 (.pointer (some x)) := by
      rcases HK with e | e | e
      · exact absurd e c0
      · rw [e]; exact ⟨_, rfl⟩
      · rw [e]; exact ⟨_, rfl⟩
    obtain ⟨x, hx⟩ := hv
    rw [hx] at C4 HE
    clear HR HI HS HK HE0 c0 hx
    generalize headsC l = c at *
    generalize l.length = n at *
    go_wp2_with fail
    refine C4.mono ?_
    rintro e w4 ⟨rfl, hw⟩
    obtain rfl := hw.symm
    clear C4 hw
    go_wp2_with fail
    go_ret
    exact ⟨congrArg Ending.returned HE.out.symm, HB3.out⟩
set_option maxHeartbeats 8000000 in
theorem implReq_head (E : Errs) (w : World) (h p : ByteArray) (a : Option Addr) (cap : Nat) (l : List Hdr) (hl : l.length ≤ 1048576) (hcap : l.length ≤ cap) (hps : p.size ≤ 1048576) (hset : SetIs w) (hE : ErrsIs w E) (hi : HdsIn w a l) :
    Calls Tryz.prog 72 #[.agg #[.string ⟨#[72, 69, 65, 68]⟩, .string h, .string p, .slice a l.length cap]] w fun e w' => e = .returned (errV E (reqC ⟨#[72, 69, 65, 68]⟩ h p l)) ∧ Below w.heap.size w w' := by
  have HM : methS ⟨#[72, 69, 65, 68]⟩ = true := by decide +kernel
  obtain ⟨W, hW⟩ : ∃ W, W = w.alloc (.cells #[.string ⟨#[72, 69, 65, 68]⟩, .string h, .string p, .slice a l.length cap] 26) := ⟨_, rfl⟩
  have bW : Below w.heap.size w W := by rw [hW]; exact (Below.refl _ _).alloc (Nat.le_refl _) _
  have HW : Hid (W = w.alloc (.cells #[.string ⟨#[72, 69, 65, 68]⟩, .string h, .string p, .slice a l.length cap] 26)) := hW
  have hlt : w.heap.size < W.heap.size := by rw [hW]; simp
  have hc2 : W.cell? ⟨w.heap.size, 2, none⟩ = some (.string p) := by rw [hW, World.cell?_alloc_mark]; rfl
  have hc3 : W.cell? ⟨w.heap.size, 3, none⟩ = some (.slice a l.length cap) := by rw [hW, World.cell?_alloc_mark]; rfl
  clear hW
  have CH := isHost_any h W
  have HI : Hid (∀ X, Below w.heap.size w X → HdsIn X a l) := fun X hb => hi.keep hb
  have HS : Hid (∀ X, Below w.heap.size w X → SetIs X) := fun X hb => hset.below hb
  have HE0 : Hid (∀ X, Below w.heap.size w X → ErrsIs X E) := fun X hb => hE.below hb
  have HB : Hid (Below w.heap.size w W) := bW
  clear hi hset hE bW
  cases ch : hostS h
  · have HE : Hid (errV E (reqC ⟨#[72, 69, 65, 68]⟩ h p l) = .iface 261 (.pointer (some E.u))) := by show _ = _; rw [reqC_bad (by simp [lineS, ch])]; rfl
    simp only [ch] at CH
    clear HM ch hc2 hc3 hlt
    go_enter Tryz.func72, Tryz.ntmps72
    go_wp2_with fail
    rw [← HW.out]
    refine CH.mono ?_
    rintro e w1 ⟨rfl, hb1⟩
    have HB1 : Hid (Below w.heap.size w w1) := HB.out.trans (hb1.mono HB.out.size)
    have gU := (HE0.out _ HB1.out).gU
    clear CH HW hb1 HB HE0
    go_wp2_with fail
    go_ret
    exact ⟨congrArg Ending.returned HE.out.symm, HB1.out⟩
  simp only [ch] at CH
  have CP : Hid (∀ X, Below w.heap.size w X → Calls Tryz.prog 122 #[.string p] X fun e w' => e = .returned (.bool (pathS p)) ∧ Below X.heap.size X w') := fun X hb => isPath_any p X (HS.out X hb) hps
  cases cp : pathS p
  · have HE : Hid (errV E (reqC ⟨#[72, 69, 65, 68]⟩ h p l) = .iface 261 (.pointer (some E.u))) := by show _ = _; rw [reqC_bad (by simp [lineS, cp])]; rfl
    rw [cp] at CP
    clear HM ch cp hc3 hps
    go_enter Tryz.func72, Tryz.ntmps72
    go_wp2_with fail
    rw [← HW.out]
    refine CH.mono ?_
    rintro e w1 ⟨rfl, hb1⟩
    have HB1 : Hid (Below w.heap.size w w1) := HB.out.trans (hb1.mono HB.out.size)
    have hc2' : w1.cell? ⟨w.heap.size, 2, none⟩ = some (.string p) := by rw [hb1.cell (p := ⟨w.heap.size, 2, none⟩) hlt]; exact hc2
    clear CH HW hb1 HB hc2 hlt
    have C2 := CP.out w1 HB1.out
    go_wp2_with fail
    refine C2.mono ?_
    rintro e w2 ⟨rfl, hb2⟩
    have HB2 : Hid (Below w.heap.size w w2) := HB1.out.trans (hb2.mono HB1.out.size)
    have gU := (HE0.out _ HB2.out).gU
    clear C2 CP hb2 HB1 HE0 hc2'
    go_wp2_with fail
    go_ret
    exact ⟨congrArg Ending.returned HE.out.symm, HB2.out⟩
  rw [cp] at CP
  have hls : lineS ⟨#[72, 69, 65, 68]⟩ h p = true := by simp [lineS, HM, ch, cp]
  have HR : Hid (reqC ⟨#[72, 69, 65, 68]⟩ h p l = restC l) := reqC_ok hls
  have HK := headsC_codes l
  have CF : Hid (∀ X, Below w.heap.size w X → Calls Tryz.prog 111 #[.slice a l.length cap] X fun e w' => e = .returned (.int .i64 (headsC l)) ∧ Below X.heap.size X w') := fun X hb => implHFault_any X a cap l hl (HS.out X hb) (HI.out X hb)
  clear hls HM ch cp hps
  go_enter Tryz.func72, Tryz.ntmps72
  go_wp2_with fail
  rw [← HW.out]
  refine CH.mono ?_
  rintro e w1 ⟨rfl, hb1⟩
  have HB1 : Hid (Below w.heap.size w w1) := HB.out.trans (hb1.mono HB.out.size)
  have hc2' : w1.cell? ⟨w.heap.size, 2, none⟩ = some (.string p) := by rw [hb1.cell (p := ⟨w.heap.size, 2, none⟩) hlt]; exact hc2
  have hc3' : w1.cell? ⟨w.heap.size, 3, none⟩ = some (.slice a l.length cap) := by rw [hb1.cell (p := ⟨w.heap.size, 3, none⟩) hlt]; exact hc3
  have hlt1 : w.heap.size < w1.heap.size := Nat.lt_of_lt_of_le hlt hb1.size
  clear CH HW hb1 HB hc2 hc3 hlt
  have C2 := CP.out w1 HB1.out
  go_wp2_with fail
  refine C2.mono ?_
  rintro e w2 ⟨rfl, hb2⟩
  have HB2 : Hid (Below w.heap.size w w2) := HB1.out.trans (hb2.mono HB1.out.size)
  have hc3 : w2.cell? ⟨w.heap.size, 3, none⟩ = some (.slice a l.length cap) := by rw [hb2.cell (p := ⟨w.heap.size, 3, none⟩) hlt1]; exact hc3'
  have hlt2 : w.heap.size < w2.heap.size := Nat.lt_of_lt_of_le hlt1 hb2.size
  clear C2 CP hb2 HB1 hc2' hc3' hlt1
  have C3 := CF.out w2 HB2.out
  go_wp2_with fail
  refine C3.mono ?_
  rintro e w3 ⟨rfl, hb3⟩
  have HB3 : Hid (Below w.heap.size w w3) := HB2.out.trans (hb3.mono HB2.out.size)
  have hc3' : w3.cell? ⟨w.heap.size, 3, none⟩ = some (.slice a l.length cap) := by rw [hb3.cell (p := ⟨w.heap.size, 3, none⟩) hlt2]; exact hc3
  have hlt3 : w.heap.size < w3.heap.size := Nat.lt_of_lt_of_le hlt2 hb3.size
  clear C3 CF hb3 HB2 hc3 hlt2
  have C4 := headError_any E (headsC l) w3 (HE0.out _ HB3.out) HK
  by_cases c0 : headsC l = 0
  · rw [c0] at C4
    rw [errV0] at C4
    rw [c0]
    have CJ : Calls Tryz.prog 92 #[.slice a l.length cap, .string ⟨#[72, 111, 115, 116]⟩] w3 fun e w' => e = .returned (.agg #[.int .i64 (joinC l ⟨#[72, 111, 115, 116]⟩), .string (joinT l ⟨#[72, 111, 115, 116]⟩)]) ∧ Below w3.heap.size w3 w' := implJoin_any w3 a cap l ⟨#[72, 111, 115, 116]⟩ hl hcap (HS.out _ HB3.out) (HI.out _ HB3.out)
    obtain ⟨hj1, hj2⟩ := reqJoin c0
    have HJ : Hid (Calls Tryz.prog 92 #[.slice a l.length cap, .string ⟨#[72, 111, 115, 116]⟩] w3 fun e w' => e = .returned (.agg #[.int .i64 (joinC l ⟨#[72, 111, 115, 116]⟩), .string (joinT l ⟨#[72, 111, 115, 116]⟩)]) ∧ Below w3.heap.size w3 w') := CJ
    clear CJ
    generalize joinT l ⟨#[72, 111, 115, 116]⟩ = jt at *
    by_cases cv : valsOf hostN l = []
    · rw [hj2 cv] at HJ
      have HN := (headsC_zero c0).1
      clear hj1 hj2 HI HS HK
      by_cases cn : 20 ≤ l.length
      · have HE : Hid (errV E (reqC ⟨#[72, 69, 65, 68]⟩ h p l) = .iface 261 (.pointer (some E.m))) := by show _ = _; rw [HR.out, restC_many c0 cv cn]; rfl
        have cn' : (l.length : Int) = 20 := by omega
        have cb : ((l.length : Int) == 20) = true := by rw [cn']; rfl
        clear HR cv cn cn' c0
        generalize l.length = n at *
        go_wp2_with fail
        refine C4.mono ?_
        rintro e w4 ⟨rfl, hw⟩
        obtain rfl := hw.symm
        clear C4 hw
        go_wp2_with fail
        refine HJ.out.mono ?_
        rintro e w5 ⟨rfl, hb5⟩
        have hc5 : w5.cell? ⟨w.heap.size, 3, none⟩ = some (.slice a n cap) := by rw [hb5.cell (p := ⟨w.heap.size, 3, none⟩) hlt3]; exact hc3'
        have HB5 : Hid (Below w.heap.size w w5) := HB3.out.trans (hb5.mono HB3.out.size)
        have gM := (HE0.out _ HB5.out).gM
        clear hb5 HJ hc3' hlt3 HB3 HE0
        have hfc := f_field_code
        go_wp2_with fail
        go_ret
        exact ⟨congrArg Ending.returned HE.out.symm, HB5.out⟩
      · have HE : Hid (errV E (reqC ⟨#[72, 69, 65, 68]⟩ h p l) = .nilIface) := by show _ = _; rw [HR.out, restC_ok c0 cv cn]; rfl
        have cb : ((l.length : Int) == 20) = false := by rw [beq_eq_false_iff_ne]; omega
        clear HR cv cn c0 HE0
        generalize l.length = n at *
        go_wp2_with fail
        refine C4.mono ?_
        rintro e w4 ⟨rfl, hw⟩
        obtain rfl := hw.symm
        clear C4 hw
        go_wp2_with fail
        refine HJ.out.mono ?_
        rintro e w5 ⟨rfl, hb5⟩
        have hc5 : w5.cell? ⟨w.heap.size, 3, none⟩ = some (.slice a n cap) := by rw [hb5.cell (p := ⟨w.heap.size, 3, none⟩) hlt3]; exact hc3'
        have HB5 : Hid (Below w.heap.size w w5) := HB3.out.trans (hb5.mono HB3.out.size)
        clear hb5 HJ hc3' hlt3 HB3
        have hfc := f_field_code
        go_wp2_with fail
        go_ret
        exact ⟨congrArg Ending.returned HE.out.symm, HB5.out⟩
    · rw [hj1 cv] at HJ
      have HE : Hid (errV E (reqC ⟨#[72, 69, 65, 68]⟩ h p l) = .iface 261 (.pointer (some E.d))) := by show _ = _; rw [HR.out, restC_host c0 cv]; rfl
      clear hj1 hj2 HI HS HK HR cv c0
      generalize l.length = n at *
      go_wp2_with fail
      refine C4.mono ?_
      rintro e w4 ⟨rfl, hw⟩
      obtain rfl := hw.symm
      clear C4 hw
      go_wp2_with fail
      refine HJ.out.mono ?_
      rintro e w5 ⟨rfl, hb5⟩
      have HB5 : Hid (Below w.heap.size w w5) := HB3.out.trans (hb5.mono HB3.out.size)
      have gD := (HE0.out _ HB5.out).gD
      clear hb5 HJ hc3' hlt3 HB3 HE0
      have hfc := f_field_code
      go_wp2_with fail
      go_ret
      exact ⟨congrArg Ending.returned HE.out.symm, HB5.out⟩
  · have HE : Hid (errV E (reqC ⟨#[72, 69, 65, 68]⟩ h p l) = errV E (headsC l)) := by show _ = _; rw [HR.out, restC_heads c0]
    have hv : ∃ x, errV E (headsC l) = .iface 261 (.pointer (some x)) := by
      rcases HK with e | e | e
      · exact absurd e c0
      · rw [e]; exact ⟨_, rfl⟩
      · rw [e]; exact ⟨_, rfl⟩
    obtain ⟨x, hx⟩ := hv
    rw [hx] at C4 HE
    clear HR HI HS HK HE0 c0 hx
    generalize headsC l = c at *
    generalize l.length = n at *
    go_wp2_with fail
    refine C4.mono ?_
    rintro e w4 ⟨rfl, hw⟩
    obtain rfl := hw.symm
    clear C4 hw
    go_wp2_with fail
    go_ret
    exact ⟨congrArg Ending.returned HE.out.symm, HB3.out⟩
set_option maxHeartbeats 1000000 in
theorem implReqE_any (E : Errs) (w : World) (m h p : ByteArray) (a : Option Addr) (cap : Nat) (l : List Hdr) (hl : l.length ≤ 1048576) (hcap : l.length ≤ cap) (hps : p.size ≤ 1048576) (hset : SetIs w) (hE : ErrsIs w E) (hi : HdsIn w a l) :
    Calls Tryz.prog 72 #[.agg #[.string m, .string h, .string p, .slice a l.length cap]] w fun e w' => e = .returned (errV E (reqC m h p l)) ∧ Below w.heap.size w w' := by
  by_cases c1 : m = ⟨#[71, 69, 84]⟩
  · subst c1; exact implReq_get E w h p a cap l hl hcap hps hset hE hi
  by_cases c2 : m = ⟨#[72, 69, 65, 68]⟩
  · subst c2; exact implReq_head E w h p a cap l hl hcap hps hset hE hi
  have HE : Hid (errV E (reqC m h p l) = .iface 261 (.pointer (some E.u))) := by
    show _ = _
    rw [reqC_bad (by
      have : methS m = false := by simp only [methS, getT, headT, c1, c2, decide_false]; rfl
      simp [lineS, this])]
    rfl
  have d1 : (m.toList == [71, 69, 84]) = false := lit_ne c1
  have d2 : (m.toList == [72, 69, 65, 68]) = false := lit_ne c2
  clear c1 c2
  have HB : Hid (Below w.heap.size w (w.alloc (.cells #[.string m, .string h, .string p, .slice a l.length cap] 26))) := (Below.refl _ _).alloc (Nat.le_refl _) _
  have gU := (hE.below HB.out).gU
  clear hi hset hE
  generalize l.length = n at *
  go_enter Tryz.func72, Tryz.ntmps72
  go_wp2_with fail
  go_ret
  exact ⟨congrArg Ending.returned HE.out.symm, HB.out⟩
set_option maxHeartbeats 1000000 in
theorem implReq_any (E : Errs) (w : World) (m h p : ByteArray) (a : Option Addr) (cap : Nat) (l : List Hdr) (hl : l.length ≤ 1048576) (hcap : l.length ≤ cap) (hps : p.size ≤ 1048576) (hset : SetIs w) (hE : ErrsIs w E) (hi : HdsIn w a l) :
    Calls Tryz.prog 18 #[.agg #[.string m, .string h, .string p, .slice a l.length cap]] w fun e w' => e = .returned (.int .i64 (reqC m h p l)) ∧ Below w.heap.size w w' := by
  have bW : Below w.heap.size w (w.alloc (.cells #[.string m, .string h, .string p, .slice a l.length cap] 26)) := (Below.refl _ _).alloc (Nat.le_refl _) _
  have C1 := implReqE_any E _ m h p a cap l hl hcap hps (hset.below bW) (hE.below bW) (hi.keep bW)
  have HK := reqC_codes m h p l
  have C2 : Hid (∀ X, ErrsIs X E → Calls Tryz.prog 71 #[errV E (reqC m h p l)] X fun e w' => e = .returned (.int .i64 (reqC m h p l)) ∧ w' = X) := fun X hX => codeOf_any E _ X hX (by omega)
  have HE0 : Hid (∀ X, Below w.heap.size w X → ErrsIs X E) := fun X hb => hE.below hb
  have HB : Hid (Below w.heap.size w (w.alloc (.cells #[.string m, .string h, .string p, .slice a l.length cap] 26))) := bW
  clear hi hset hE HK bW
  generalize reqC m h p l = c at *
  generalize l.length = n at *
  generalize errV E c = ev at *
  go_enter Tryz.func18, Tryz.ntmps18
  go_wp2_with fail
  refine C1.mono ?_
  rintro e w1 ⟨rfl, hb1⟩
  have HB1 : Hid (Below w.heap.size w w1) := HB.out.trans (hb1.mono HB.out.size)
  have C3 := C2.out w1 (HE0.out _ HB1.out)
  clear hb1 HB C1 C2 HE0
  go_wp2_with fail
  refine C3.mono ?_
  rintro e w2 ⟨rfl, hw⟩
  obtain rfl := hw.symm
  clear hw C3
  go_wp2_with fail
  go_ret
  exact ⟨rfl, HB1.out⟩
end Go.Proofs.YtojcjpdgjohldaaGreatDoor
/-
  What ResponseFault and its model answer.
-/
namespace Go.Proofs.YtojcjpdgjohldaaGreatDoor
open Go.ChangeShapes Go.WideShapes Go.ChangeAt Go.RowKit
set_option maxHeartbeats 400000 in
theorem rIn_any (s : Int) (w : World) (b : Bool) (hb : b = (decide (200 ≤ s) && decide (s ≤ 599))) :
    Calls Tryz.prog 73 #[.int .i64 s, .int .i64 200, .int .i64 599] w fun e w' => e = .returned (.bool b) ∧ w' = w := by
  have HE : Hid (b = (decide (200 ≤ s) && decide (s ≤ 599))) := hb
  clear hb
  by_cases c1 : (200 : Int) ≤ s
  · by_cases c2 : s ≤ 599
    · have HV : Hid (b = true) := by show _ = _; rw [HE.out]; simp [c1, c2]
      have d : decide (s ≤ 599) = true := by simpa using c2
      go_enter Tryz.func73, Tryz.ntmps73
      go_wp2
      go_ret
      exact ⟨ret_bool HV.out.symm, rfl⟩
    · have HV : Hid (b = false) := by show _ = _; rw [HE.out]; simp [c2]
      have d : decide (s ≤ 599) = false := by simpa using c2
      go_enter Tryz.func73, Tryz.ntmps73
      go_wp2
      go_ret
      exact ⟨ret_bool HV.out.symm, rfl⟩
  · have HV : Hid (b = false) := by show _ = _; rw [HE.out]; simp [c1]
    go_enter Tryz.func73, Tryz.ntmps73
    go_wp2
    go_ret
    exact ⟨ret_bool HV.out.symm, rfl⟩
set_option maxHeartbeats 4000000 in
theorem specResp_any (w : World) (s : Int) (a : Option Addr) (cap : Nat) (l : List Hdr) (bp : Option Addr) (bn bc : Nat) (hl : l.length ≤ 1048576) (hbn : bn ≤ 1048576) (hi : HdsIn w a l) :
    Calls Tryz.prog 19 #[.agg #[.int .i64 s, .slice a l.length cap, .slice bp bn bc]] w fun e w' => e = .returned (.int .i64 (respC s l bn)) ∧ Below w.heap.size w w' := by
  obtain ⟨W, hW⟩ : ∃ W, W = w.alloc (.cells #[.int .i64 s, .slice a l.length cap, .slice bp bn bc] 32) := ⟨_, rfl⟩
  have HW : Hid (W = w.alloc (.cells #[.int .i64 s, .slice a l.length cap, .slice bp bn bc] 32)) := hW
  have bW : Below w.heap.size w W := by rw [hW]; exact (Below.refl _ _).alloc (Nat.le_refl _) _
  have hlt : w.heap.size < W.heap.size := by rw [hW]; simp
  have hc1 : W.cell? ⟨w.heap.size, 1, none⟩ = some (.slice a l.length cap) := by rw [hW, World.cell?_alloc_mark]; rfl
  have hc2 : W.cell? ⟨w.heap.size, 2, none⟩ = some (.slice bp bn bc) := by rw [hW, World.cell?_alloc_mark]; rfl
  have HB : Hid (Below w.heap.size w W) := bW
  have CF := specHFault_any W a cap l hl (hi.keep bW)
  have CI := rIn_any s W _ rfl
  clear hW bW hi
  by_cases c0 : s < 200 ∨ 599 < s
  · have HE : Hid (respC s l bn = 3) := respC_range c0
    rw [show (decide (200 ≤ s) && decide (s ≤ 599)) = false from by simp; omega] at CI
    clear CF hc1 hc2 hlt c0
    generalize l.length = n at *
    go_enter Tryz.func19, Tryz.ntmps19
    go_wp2_with fail
    rw [← HW.out]
    refine CI.mono ?_
    rintro e w1 ⟨rfl, hw⟩
    obtain rfl := hw.symm
    clear CI HW hw
    go_wp2_with fail
    go_ret
    exact ⟨ret_int HE.out.symm, HB.out⟩
  rw [show (decide (200 ≤ s) && decide (s ≤ 599)) = true from by simp; omega] at CI
  have HE1 : Hid (headsC l ≠ 0 → respC s l bn = headsC l) := fun h => respC_heads c0 h
  have HE2 : Hid (headsC l = 0 → 2000 < bn → respC s l bn = 2) := fun h h2 => respC_many c0 h h2
  have HE3 : Hid (headsC l = 0 → ¬ 2000 < bn → respC s l bn = 0) := fun h h2 => respC_ok c0 h h2
  clear c0
  generalize respC s l bn = rc at *
  generalize headsC l = c at *
  generalize l.length = n at *
  go_enter Tryz.func19, Tryz.ntmps19
  go_wp2_with fail
  rw [← HW.out]
  refine CI.mono ?_
  rintro e w1 ⟨rfl, hw⟩
  obtain rfl := hw.symm
  clear CI HW hw
  go_wp2_with fail
  refine CF.mono ?_
  rintro e w2 ⟨rfl, hb2⟩
  have HB2 : Hid (Below w.heap.size w w2) := HB.out.trans (hb2.mono HB.out.size)
  have hc2' : w2.cell? ⟨w.heap.size, 2, none⟩ = some (.slice bp bn bc) := by rw [hb2.cell (p := ⟨w.heap.size, 2, none⟩) hlt]; exact hc2
  clear CF hb2 HB hc1 hc2 hlt
  by_cases c1 : c = 0
  · subst c1
    by_cases c2 : 2000 < bn
    · have HE : Hid (rc = 2) := HE2.out rfl c2
      have g : (2000 : Int) < bn := by omega
      clear HE1 HE2 HE3 c2
      go_wp2_with fail
      go_ret
      exact ⟨ret_int HE.out.symm, HB2.out⟩
    · have HE : Hid (rc = 0) := HE3.out rfl c2
      have g : ¬ (2000 : Int) < bn := by omega
      clear HE1 HE2 HE3 c2
      go_wp2_with fail
      go_ret
      exact ⟨ret_int HE.out.symm, HB2.out⟩
  · have HE : Hid (rc = c) := HE1.out c1
    clear HE1 HE2 HE3 hc2'
    go_wp2_with fail
    go_ret
    exact ⟨ret_int HE.out.symm, HB2.out⟩
set_option maxHeartbeats 4000000 in
theorem implRespE_any (E : Errs) (w : World) (s : Int) (a : Option Addr) (cap : Nat) (l : List Hdr) (bp : Option Addr) (bn bc : Nat) (hl : l.length ≤ 1048576) (hbn : bn ≤ 1048576) (hset : SetIs w) (hE : ErrsIs w E) (hi : HdsIn w a l) :
    Calls Tryz.prog 74 #[.agg #[.int .i64 s, .slice a l.length cap, .slice bp bn bc]] w fun e w' => e = .returned (errV E (respC s l bn)) ∧ Below w.heap.size w w' := by
  obtain ⟨W, hW⟩ : ∃ W, W = w.alloc (.cells #[.int .i64 s, .slice a l.length cap, .slice bp bn bc] 32) := ⟨_, rfl⟩
  have HW : Hid (W = w.alloc (.cells #[.int .i64 s, .slice a l.length cap, .slice bp bn bc] 32)) := hW
  have bW : Below w.heap.size w W := by rw [hW]; exact (Below.refl _ _).alloc (Nat.le_refl _) _
  have hlt : w.heap.size < W.heap.size := by rw [hW]; simp
  have hc2 : W.cell? ⟨w.heap.size, 2, none⟩ = some (.slice bp bn bc) := by rw [hW, World.cell?_alloc_mark]; rfl
  have HB : Hid (Below w.heap.size w W) := bW
  have CF := implHFault_any W a cap l hl (hset.below bW) (hi.keep bW)
  have HE0 : Hid (∀ X, Below w.heap.size w X → ErrsIs X E) := fun X hb => hE.below hb
  have HK := headsC_codes l
  have gB0 := (hE.below bW).gB
  rw [hW] at gB0
  clear hW bW hi hset hE
  by_cases c0 : s < 200 ∨ 599 < s
  · have HE : Hid (errV E (respC s l bn) = .iface 261 (.pointer (some E.b))) := by show _ = _; rw [respC_range c0]; rfl
    rw [HW.out] at HB
    clear CF hc2 hlt HE0 HK HW
    generalize l.length = n at *
    rcases c0 with c0 | c0
    · go_enter Tryz.func74, Tryz.ntmps74
      go_wp2_with fail
      go_ret
      exact ⟨congrArg Ending.returned HE.out.symm, HB.out⟩
    · have c1 : ¬ s < 200 := by omega
      go_enter Tryz.func74, Tryz.ntmps74
      go_wp2_with fail
      go_ret
      exact ⟨congrArg Ending.returned HE.out.symm, HB.out⟩
  have HE1 : Hid (headsC l ≠ 0 → respC s l bn = headsC l) := fun h => respC_heads c0 h
  have HE2 : Hid (headsC l = 0 → 2000 < bn → respC s l bn = 2) := fun h h2 => respC_many c0 h h2
  have HE3 : Hid (headsC l = 0 → ¬ 2000 < bn → respC s l bn = 0) := fun h h2 => respC_ok c0 h h2
  have g1 : ¬ s < 200 := by omega
  have g2 : ¬ 599 < s := by omega
  clear c0 gB0
  generalize respC s l bn = rc at *
  generalize headsC l = c at *
  generalize l.length = n at *
  go_enter Tryz.func74, Tryz.ntmps74
  go_wp2_with fail
  rw [← HW.out]
  refine CF.mono ?_
  rintro e w2 ⟨rfl, hb2⟩
  have HB2 : Hid (Below w.heap.size w w2) := HB.out.trans (hb2.mono HB.out.size)
  have hc2' : w2.cell? ⟨w.heap.size, 2, none⟩ = some (.slice bp bn bc) := by rw [hb2.cell (p := ⟨w.heap.size, 2, none⟩) hlt]; exact hc2
  clear CF hb2 HB hc2 hlt HW g1 g2
  have C4 := headError_any E c w2 (HE0.out _ HB2.out) HK
  by_cases c1 : c = 0
  · subst c1
    rw [errV0] at C4
    by_cases c2 : 2000 < bn
    · have HE : Hid (errV E rc = .iface 261 (.pointer (some E.m))) := by show _ = _; rw [HE2.out rfl c2]; rfl
      have g : (2000 : Int) < bn := by omega
      have gM := (HE0.out _ HB2.out).gM
      clear HE1 HE2 HE3 c2 HE0 HK
      go_wp2_with fail
      refine C4.mono ?_
      rintro e w4 ⟨rfl, hw⟩
      obtain rfl := hw.symm
      clear C4 hw
      go_wp2_with fail
      go_ret
      exact ⟨congrArg Ending.returned HE.out.symm, HB2.out⟩
    · have HE : Hid (errV E rc = .nilIface) := by show _ = _; rw [HE3.out rfl c2]; rfl
      have g : ¬ (2000 : Int) < bn := by omega
      clear HE1 HE2 HE3 c2 HE0 HK
      go_wp2_with fail
      refine C4.mono ?_
      rintro e w4 ⟨rfl, hw⟩
      obtain rfl := hw.symm
      clear C4 hw
      go_wp2_with fail
      go_ret
      exact ⟨congrArg Ending.returned HE.out.symm, HB2.out⟩
  · have HE : Hid (errV E rc = errV E c) := by show _ = _; rw [HE1.out c1]
    have hv : ∃ x, errV E c = .iface 261 (.pointer (some x)) := by
      rcases HK with e | e | e
      · exact absurd e c1
      · rw [e]; exact ⟨_, rfl⟩
      · rw [e]; exact ⟨_, rfl⟩
    obtain ⟨x, hx⟩ := hv
    rw [hx] at C4 HE
    clear HE1 HE2 HE3 HE0 HK hc2' hx c1
    go_wp2_with fail
    refine C4.mono ?_
    rintro e w4 ⟨rfl, hw⟩
    obtain rfl := hw.symm
    clear C4 hw
    go_wp2_with fail
    go_ret
    exact ⟨congrArg Ending.returned HE.out.symm, HB2.out⟩
set_option maxHeartbeats 1000000 in
theorem implResp_any (E : Errs) (w : World) (s : Int) (a : Option Addr) (cap : Nat) (l : List Hdr) (bp : Option Addr) (bn bc : Nat) (hl : l.length ≤ 1048576) (hbn : bn ≤ 1048576) (hset : SetIs w) (hE : ErrsIs w E) (hi : HdsIn w a l) :
    Calls Tryz.prog 20 #[.agg #[.int .i64 s, .slice a l.length cap, .slice bp bn bc]] w fun e w' => e = .returned (.int .i64 (respC s l bn)) ∧ Below w.heap.size w w' := by
  have bW : Below w.heap.size w (w.alloc (.cells #[.int .i64 s, .slice a l.length cap, .slice bp bn bc] 32)) := (Below.refl _ _).alloc (Nat.le_refl _) _
  have C1 := implRespE_any E _ s a cap l bp bn bc hl hbn (hset.below bW) (hE.below bW) (hi.keep bW)
  have HK := respC_codes s l bn
  have C2 : Hid (∀ X, ErrsIs X E → Calls Tryz.prog 71 #[errV E (respC s l bn)] X fun e w' => e = .returned (.int .i64 (respC s l bn)) ∧ w' = X) := fun X hX => codeOf_any E _ X hX (by omega)
  have HE0 : Hid (∀ X, Below w.heap.size w X → ErrsIs X E) := fun X hb => hE.below hb
  have HB : Hid (Below w.heap.size w (w.alloc (.cells #[.int .i64 s, .slice a l.length cap, .slice bp bn bc] 32))) := bW
  clear hi hset hE HK bW
  generalize respC s l bn = c at *
  generalize l.length = n at *
  generalize errV E c = ev at *
  go_enter Tryz.func20, Tryz.ntmps20
  go_wp2_with fail
  refine C1.mono ?_
  rintro e w1 ⟨rfl, hb1⟩
  have HB1 : Hid (Below w.heap.size w w1) := HB.out.trans (hb1.mono HB.out.size)
  have C3 := C2.out w1 (HE0.out _ HB1.out)
  clear hb1 HB C1 C2 HE0
  go_wp2_with fail
  refine C3.mono ?_
  rintro e w2 ⟨rfl, hw⟩
  obtain rfl := hw.symm
  clear hw C3
  go_wp2_with fail
  go_ret
  exact ⟨rfl, HB1.out⟩
end Go.Proofs.YtojcjpdgjohldaaGreatDoor
/-
  What the model's l1Digits answers: the decimal digits of a number.
-/
namespace Go.Proofs.YtojcjpdgjohldaaGreatDoor
open Go.ChangeShapes Go.WideShapes Go.ChangeAt Go.RowKit
namespace num
/-- One byte in a slice of its own, as a text. -/
theorem one_byte (c : Int) (x : UInt8) (hx : (x.toNat : Int) = c) (W : World) (B cap : Nat) (hc : W.cell? ⟨B, 0, none⟩ = some (.int .u8 c)) :
    (convert 22 9 (.slice (some ⟨B, 0, none⟩) 1 cap)).run Tryz.prog W = .ok (.string ⟨#[x]⟩) W := by
  have := run_convert_bytes_back (P := Tryz.prog) W 22 9 5 ⟨B, 0, none⟩ cap [x] Tryz.underlying22 Tryz.underlying5 Tryz.underlying9 (fun j hj => by
    obtain rfl : j = 0 := by simp at hj; omega
    simp [Addr.add, hc, hx])
  simpa using this
theorem dig_nat (d : Nat) (h : d < 10) : ((UInt8.ofNat (48 + d)).toNat : Int) = 48 + (d : Int) := by
  rw [UInt8.toNat_ofNat_of_lt' (by show 48 + d < 256; omega)]; omega
set_option maxHeartbeats 1000000 in
theorem l1Digits_one (u : Nat) (h : u < 10) (w : World) :
    Calls Tryz.prog 107 #[.int .i64 u] w fun e w' => e = .returned (.string ⟨(Lib.decDigits u).toArray⟩) ∧ Below w.heap.size w w' := by
  have HD : Hid ((⟨#[UInt8.ofNat (48 + u)]⟩ : ByteArray) = ⟨(Lib.decDigits u).toArray⟩) := by
    show _ = _
    rw [Lib.decDigits_one h]
  have hcv := one_byte (48 + (u : Int)) (UInt8.ofNat (48 + u)) (dig_nat u h)
  have g : (u : Int) < 10 := by omega
  generalize (⟨#[UInt8.ofNat (48 + u)]⟩ : ByteArray) = r at *
  go_enter Tryz.func107, Tryz.ntmps107
  go_wp2_with fail
  go_ret
  exact ⟨ret_str HD.out, (Below.refl _ _).alloc (Nat.le_refl _) _⟩
set_option maxHeartbeats 1000000 in
theorem l1Digits_any (k : Nat) : ∀ (u : Nat) (w : World), u < 10 ^ k → u ≤ 1000000000000000 →
    Calls Tryz.prog 107 #[.int .i64 u] w fun e w' => e = .returned (.string ⟨(Lib.decDigits u).toArray⟩) ∧ Below w.heap.size w w' := by
  induction k with
  | zero =>
    intro u w h _
    exact l1Digits_one u (by simp at h; omega) w
  | succ k ih =>
    intro u w h hb
    by_cases c : u < 10
    · exact l1Digits_one u c w
    · have IH : Hid (∀ w, Calls Tryz.prog 107 #[.int .i64 ((u : Int) / 10)] w fun e w' => e = .returned (.string ⟨(Lib.decDigits (u / 10)).toArray⟩) ∧ Below w.heap.size w w') := by
        intro w
        have := ih (u / 10) w (by rw [Nat.pow_succ] at h; omega) (by omega)
        rw [show (((u / 10 : Nat)) : Int) = (u : Int) / 10 from by omega] at this
        exact this
      have HD : Hid ((⟨(Lib.decDigits (u / 10)).toArray⟩ : ByteArray) ++ (⟨#[UInt8.ofNat (48 + u % 10)]⟩ : ByteArray) = ⟨(Lib.decDigits u).toArray⟩) := by
        show _ = _
        rw [show Lib.decDigits u = Lib.decDigits (u / 10) ++ [UInt8.ofNat (48 + u % 10)] from by rw [Lib.decDigits, dif_neg c]]
        apply ByteArray.ext
        simp
      have hcv := one_byte (48 + (u : Int) % 10) (UInt8.ofNat (48 + u % 10)) (by rw [dig_nat (u % 10) (by omega)]; omega)
      have g : ¬ (u : Int) < 10 := by omega
      have g2 : (u : Int) ≤ 1000000000000000 := by omega
      have e1 : IntKind.i64.wrap ((u : Int) / 10) = (u : Int) / 10 := by rw [IntKind.wrap_i64]; omega
      have e2 : IntKind.u8.wrap (IntKind.i64.wrap (48 + (u : Int).tmod 10)) = 48 + (u : Int) % 10 := by
        rw [Int.tmod_eq_emod_of_nonneg (by omega), IntKind.wrap_i64, IntKind.wrap_u8]; omega
      clear ih h c
      have zr : (⟨#[UInt8.ofNat (48 + u % 10)]⟩ : ByteArray).size ≤ 1 := Nat.le_refl _
      have zq : (⟨(Lib.decDigits (u / 10)).toArray⟩ : ByteArray).size ≤ 21 := by
        have := Lib.itoa_length_le ((u / 10 : Nat) : Int) (by omega) (by omega)
        rw [Lib.itoa_nonneg] at this
        simpa [ByteArray.size] using this
      generalize (⟨#[UInt8.ofNat (48 + u % 10)]⟩ : ByteArray) = r at *
      generalize (⟨(Lib.decDigits (u / 10)).toArray⟩ : ByteArray) = q at *
      have hadd := fun w => run_string_add_sum (P := Tryz.prog) (w := w) q r (by omega)
      go_enter Tryz.func107, Tryz.ntmps107
      go_wp2_with fail
      go_region_with (go_at_call 107; refine (IH.out _).mono ?_; rintro e w1 ⟨rfl, hb1⟩; obtain ⟨hc1, hf1⟩ := bcell hb1; have hz1 := hb1.size)
      all_goals (go_wp2_with fail; go_ret; refine ⟨ret_str HD.out, ?_⟩; clear IH HD hcv hadd)
      · exact ((Below.refl w.heap.size w).drew.trans hb1).alloc hz1 _
      · exact (((Below.refl w.heap.size w).alloc (Nat.le_refl _) _).drew).trans (hb1.mono (by simp))
      · exact (((Below.refl w.heap.size w).alloc (Nat.le_refl _) _).drew).trans (hb1.mono (by simp))
end num
end Go.Proofs.YtojcjpdgjohldaaGreatDoor
/-
  What NumberText and its model answer; the law of NumberText out of them.
-/
namespace Go.Proofs.YtojcjpdgjohldaaGreatDoor
open Go.ChangeShapes Go.WideShapes Go.ChangeAt Go.RowKit
namespace num
/-- The library's table of powers of ten lies in memory. -/
def PowIs (w : World) : Prop := Lib.TabIs Tryz.prog w "internal/strconv.uint64pow10" .u64 Lib.pow10Tab
theorem powNamed : Tryz.prog.globalNamed "internal/strconv.uint64pow10" = some 6 := by kernel_rfl
theorem PowIs.below {w w' : World} (h : PowIs w) (hb : Below w.heap.size w w') : PowIs w' := by
  unfold PowIs Lib.TabIs at h ⊢
  refine var?_below hb powNamed ?_ h
  unfold World.var? at h
  rw [powNamed] at h
  simp only [Option.bind_some] at h
  cases hh : w.heap[6]? with
  | none => rw [hh] at h; cases h
  | some o => exact (Array.getElem?_eq_some_iff.1 hh).1
def numT (n : Int) : ByteArray := ⟨(Lib.itoa n).toArray⟩
theorem format_lib (n : Int) (h0 : 0 ≤ n) (h1 : n ≤ 1000000000000000) (w : World) (h : PowIs w) :
    Calls Tryz.prog 114 #[.int .i64 n, .int .i64 10] w fun e w' => e = .returned (.string (numT n)) ∧ Below w.heap.size w w' := by
  refine (Any.strconv_FormatInt_10 Tryz.laysM173 n (by omega) (by omega) w h).mono ?_
  rintro e w' ⟨rfl, k, os, rfl⟩
  exact ⟨rfl, Lib.below_grow _ _ (Nat.le_refl _) _ _⟩
theorem l1Digits_all (n : Int) (h0 : 0 ≤ n) (h1 : n ≤ 1000000000000000) (w : World) :
    Calls Tryz.prog 107 #[.int .i64 n] w fun e w' => e = .returned (.string (numT n)) ∧ Below w.heap.size w w' := by
  obtain ⟨u, rfl⟩ := Int.eq_ofNat_of_zero_le h0
  have := l1Digits_any 16 u w (by omega) (by omega)
  unfold numT
  rw [Lib.itoa_nonneg]
  exact this
set_option maxHeartbeats 400000 in
theorem implNum_bad (n : Int) (w : World) (h : n < 0 ∨ 1000000000000000 < n) :
    Calls Tryz.prog 66 #[.int .i64 n] w fun e w' => e = .returned (.agg #[.int .i64 3, .string ⟨#[]⟩]) ∧ Below w.heap.size w w' := by
  rcases h with h | h
  · go_enter Tryz.func66, Tryz.ntmps66
    go_wp2
    exact bodyPost_ret (v := .agg #[.int .i64 3, .string ⟨#[]⟩]) (by simp [results, Tryz.results66, go_sem]) rfl ⟨rfl, (Below.refl _ _).alloc (Nat.le_refl _) _⟩
  · have h0 : 0 ≤ n := by omega
    have d : decide (n ≤ 1000000000000000) = false := by simp; omega
    go_enter Tryz.func66, Tryz.ntmps66
    go_wp2
    exact bodyPost_ret (v := .agg #[.int .i64 3, .string ⟨#[]⟩]) (by simp [results, Tryz.results66, go_sem]) rfl ⟨rfl, (Below.refl _ _).alloc (Nat.le_refl _) _⟩
set_option maxHeartbeats 400000 in
theorem implNum_any (n : Int) (w : World) (h0 : 0 ≤ n) (h1 : n ≤ 1000000000000000) (hp : PowIs w) :
    Calls Tryz.prog 66 #[.int .i64 n] w fun e w' => e = .returned (.agg #[.int .i64 0, .string (numT n)]) ∧ Below w.heap.size w w' := by
  have HP : Hid (PowIs (w.alloc (.cells #[.int .i64 0, .string ⟨#[]⟩] 50))) := hp.below ((Below.refl _ _).alloc (Nat.le_refl _) _)
  clear hp
  have d : decide (n ≤ 1000000000000000) = true := by simpa using h1
  go_enter Tryz.func66, Tryz.ntmps66
  go_wp2_with (go_at_call 113; go_in)
  refine (format_lib n h0 h1 _ HP.out).mono ?_
  rintro e w1 ⟨rfl, hb⟩
  simp only [World.size_alloc] at hb
  have hz := hb.size
  simp only [World.size_alloc] at hz
  have p0 : w1.cell? ⟨w.heap.size, 0, none⟩ = some (.int .i64 0) := by rw [hb.cell (p := ⟨w.heap.size, 0, none⟩) (Nat.lt_succ_self _)]; simp
  have p1 : w1.cell? ⟨w.heap.size, 1, none⟩ = some (.string ⟨#[]⟩) := by rw [hb.cell (p := ⟨w.heap.size, 1, none⟩) (Nat.lt_succ_self _)]; simp
  have f0 : w1.frozen? ⟨w.heap.size, 0, none⟩ = false := by rw [hb.frozen (p := ⟨w.heap.size, 0, none⟩) (Nat.lt_succ_self _)]; simp
  have f1 : w1.frozen? ⟨w.heap.size, 1, none⟩ = false := by rw [hb.frozen (p := ⟨w.heap.size, 1, none⟩) (Nat.lt_succ_self _)]; simp
  generalize hr : numT n = r
  have HL : Hid (r = numT n) := hr.symm
  clear hr
  obtain ⟨q0, q1⟩ := two_set (v0 := .int .i64 0) (v1 := .string r) p0 p1
  go_wp2
  have kb : Below w.heap.size w w1 := ((Below.refl _ _).alloc (Nat.le_refl _) _).trans (hb.mono (Nat.le_succ _))
  exact bodyPost_ret (v := .agg #[.int .i64 0, .string r]) (by simp [results, Tryz.results66, go_sem, q0, q1]) rfl ⟨by rw [HL.out], (kb.setCell (Nat.le_refl _) _).setCell (Nat.le_refl _) _⟩
end num
end Go.Proofs.YtojcjpdgjohldaaGreatDoor
/-
  Responses as bytes, plainly. No Go in sight.
-/
namespace Go.Proofs.YtojcjpdgjohldaaGreatDoor
open num (numT)
/-- A response: 'HTTP/1.1', a blank, the status, the lines, the body. -/
def respH (s : Int) (l : List Hdr) : List UInt8 := verL ++ [32] ++ (numT s).data.toList ++ [13, 10] ++ packL l ++ [13, 10]
def respL (s : Int) (l : List Hdr) (body : List UInt8) : List UInt8 := respH s l ++ body
def respB (s : Int) (l : List Hdr) (body : List UInt8) : List UInt8 := if respC s l body.length = 0 then respL s l body else []
end Go.Proofs.YtojcjpdgjohldaaGreatDoor
/-
  What PackRequest and its model answer.
-/
namespace Go.Proofs.YtojcjpdgjohldaaGreatDoor
open Go.ChangeShapes Go.WideShapes Go.ChangeAt Go.RowKit
theorem two_put {w : World} {B : Nat} {u0 u1 v0 v1 : Value} (h : Two w B u0 u1) : Two ((w.setCell ⟨B, 0, none⟩ v0).setCell ⟨B, 1, none⟩ v1) B v0 v1 :=
  ⟨(two_set h.c0 h.c1).1, (two_set h.c0 h.c1).2, fun o => by rw [World.frozen?_setCell, World.frozen?_setCell]; exact h.fr o, by simpa using h.lt⟩
theorem BMine.put {w : World} {B g : Nat} {l : List UInt8} (h : BMine w g l) (v0 v1 : Value) (hne : B ≠ g) : BMine ((w.setCell ⟨B, 0, none⟩ v0).setCell ⟨B, 1, none⟩ v1) g l := by
  have ne : ∀ i o : Nat, (⟨B, i, none⟩ : Addr) ≠ ⟨g, o, none⟩ := fun i o e => hne (congrArg Addr.block e)
  refine ⟨fun i c hc => ?_, fun o ho => by rw [World.frozen?_setCell, World.frozen?_setCell]; exact h.free o ho, by simpa using h.lt⟩
  rw [World.cell?_setCell_other _ _ _ _ (ne _ _), World.cell?_setCell_other _ _ _ _ (ne _ _)]
  exact h.at0 i c hc
theorem method_size {m h p : ByteArray} (c : lineS m h p = true) : m.size ≤ 4 ∧ h.size ≤ 60 ∧ p.size ≤ 100 := by
  obtain ⟨h1, h2, h3⟩ := lineS_true c
  refine ⟨?_, (hostS_true h2).2.1, ?_⟩
  · simp only [methS, Bool.or_eq_true, decide_eq_true_eq] at h1
    rcases h1 with rfl | rfl <;> decide
  · simp only [pathS, Bool.and_eq_true, decide_eq_true_eq] at h3
    exact h3.1.2
def reqText (m h p : ByteArray) (t : ByteArray) : ByteArray := m ++ ⟨#[32]⟩ ++ p ++ ⟨#[32, 72, 84, 84, 80, 47, 49, 46, 49, 13, 10, 72, 111, 115, 116, 58, 32]⟩ ++ h ++ ⟨#[13, 10]⟩ ++ t ++ ⟨#[13, 10]⟩
theorem reqText_list (m h p : ByteArray) (l : List Hdr) : (reqText m h p ⟨(packL l).toArray⟩).data.toList = reqL m h p l := by
  simp only [reqText, reqL, packL_cons, lineL, hostT, verL, happ_list]
  simp
set_option maxRecDepth 100000 in
set_option maxHeartbeats 8000000 in
theorem specPackReq_any (w : World) (m h p : ByteArray) (a : Option Addr) (cap : Nat) (l : List Hdr) (hl : l.length ≤ 1048576) (hi : HdsIn w a l) :
    Calls Tryz.prog 36 #[.agg #[.string m, .string h, .string p, .slice a l.length cap]] w fun e w' => BGot (reqC m h p l) (reqB m h p l) w.heap.size e w' ∧ Below w.heap.size w w' := by
  obtain ⟨W, hW⟩ : ∃ W, W = (w.alloc (.cells #[.string m, .string h, .string p, .slice a l.length cap] 26)).alloc (.cells #[.int .i64 0, .slice none 0 0] 29) := ⟨_, rfl⟩
  have HW : Hid (W = (w.alloc (.cells #[.string m, .string h, .string p, .slice a l.length cap] 26)).alloc (.cells #[.int .i64 0, .slice none 0 0] 29)) := hW
  have bW : Below w.heap.size w W := by rw [hW]; exact ((Below.refl _ _).alloc (Nat.le_refl _) _).alloc (by simp) _
  have f0 : Four W w.heap.size (.string m) (.string h) (.string p) (.slice a l.length cap) := by rw [hW]; exact (Four.new _ _ _ _ _ _).keep ((Below.refl _ _).alloc (Nat.le_refl _) _)
  have t0 : Two W (w.heap.size + 1) (.int .i64 0) (.slice none 0 0) := by
    rw [hW]
    have := Two.new (w.alloc (.cells #[.string m, .string h, .string p, .slice a l.length cap] 26)) (.int .i64 0) (.slice none 0 0) 29
    simpa using this
  have C := specReq_any W m h p a cap l hl (hi.keep bW)
  have K0 : Hid (Below w.heap.size w W ∧ Four W w.heap.size (.string m) (.string h) (.string p) (.slice a l.length cap) ∧ Two W (w.heap.size + 1) (.int .i64 0) (.slice none 0 0)) := ⟨bW, f0, t0⟩
  have HI : Hid (∀ X, Below w.heap.size w X → HdsIn X a l) := fun X hb => hi.keep hb
  clear hW bW f0 t0 hi
  have hc3 := K0.out.2.1.c3
  rw [HW.out] at hc3
  go_enter Tryz.func36, Tryz.ntmps36
  go_wp2_with fail
  rw [← HW.out]
  refine C.mono ?_
  rintro e w1 ⟨rfl, hb1⟩
  have K1 : Hid (Below w.heap.size w w1 ∧ Four w1 w.heap.size (.string m) (.string h) (.string p) (.slice a l.length cap) ∧ Two w1 (w.heap.size + 1) (.int .i64 0) (.slice none 0 0)) := ⟨K0.out.1.trans (hb1.mono K0.out.1.size), K0.out.2.1.keep hb1, K0.out.2.2.keep hb1⟩
  clear C hb1 K0 HW hc3
  by_cases c0 : reqC m h p l = 0
  · have HB0 : Hid (reqB m h p l = reqL m h p l) := by show _ = _; rw [reqB, if_pos c0]
    obtain ⟨y1, y2, y3, y4⟩ := reqC_zero c0
    obtain ⟨z1, z2, z3⟩ := method_size y1
    obtain ⟨s1, s2⟩ := heads_sizes y2
    have HP : Hid (∀ X, Below w.heap.size w X → Calls Tryz.prog 99 #[.slice a l.length cap] X fun e w' => e = .returned (.string ⟨(packL l).toArray⟩) ∧ Below X.heap.size X w') := fun X hb => l4Pack_any X a cap l (by omega) (fun i r hr => by have := s2 i r hr; omega) (HI.out X hb)
    have hpl := packL_len y2
    obtain ⟨t, ht⟩ : ∃ t : ByteArray, t = ⟨(packL l).toArray⟩ := ⟨_, rfl⟩
    have hts : t.size ≤ 6000 := by rw [ht]; show (packL l).toArray.size ≤ 6000; rw [List.size_toArray]; omega
    have HT : Hid ((reqText m h p t).data.toList = reqL m h p l) := by show _ = _; rw [ht]; exact reqText_list m h p l
    rw [← ht] at HP
    have HTX : Hid (reqText m h p t = m ++ ⟨#[32]⟩ ++ p ++ ⟨#[32, 72, 84, 84, 80, 47, 49, 46, 49, 13, 10, 72, 111, 115, 116, 58, 32]⟩ ++ h ++ ⟨#[13, 10]⟩ ++ t ++ ⟨#[13, 10]⟩) := rfl
    rw [c0]
    have HC0 : Hid (reqC m h p l = 0) := c0
    clear ht y1 y2 y3 y4 s1 s2 hpl c0 HI
    generalize l.length = n at *
    have BW : Hid (Below w1.heap.size w1 w1.drew) := (Below.refl _ _).drew
    have HKS : Hid (∀ X, Below w1.heap.size w1 X → X.cell? ⟨w.heap.size, 0, none⟩ = some (.string m) ∧ X.cell? ⟨w.heap.size, 1, none⟩ = some (.string h) ∧ X.cell? ⟨w.heap.size, 2, none⟩ = some (.string p) ∧ X.cell? ⟨w.heap.size, 3, none⟩ = some (.slice a n cap)) := fun X hb => ⟨(K1.out.2.1.keep hb).c0, (K1.out.2.1.keep hb).c1, (K1.out.2.1.keep hb).c2, (K1.out.2.1.keep hb).c3⟩
    have HST : Hid (∀ (X : World) v0 v1, Below w1.heap.size w1 X → (fun X : World => X.cell? ⟨w.heap.size, 0, none⟩ = some (.string m) ∧ X.cell? ⟨w.heap.size, 1, none⟩ = some (.string h) ∧ X.cell? ⟨w.heap.size, 2, none⟩ = some (.string p) ∧ X.cell? ⟨w.heap.size, 3, none⟩ = some (.slice a n cap)) ((X.setCell ⟨w.heap.size + 1, 0, none⟩ v0).setCell ⟨w.heap.size + 1, 1, none⟩ v1)) := fun X v0 v1 hb => by
      have ne : ∀ i o : Nat, (⟨w.heap.size + 1, i, none⟩ : Addr) ≠ ⟨w.heap.size, o, none⟩ := fun i o e => by have := congrArg Addr.block e; simp only at this; omega
      have kk : ∀ o, ((X.setCell ⟨w.heap.size + 1, 0, none⟩ v0).setCell ⟨w.heap.size + 1, 1, none⟩ v1).cell? ⟨w.heap.size, o, none⟩ = X.cell? ⟨w.heap.size, o, none⟩ := fun o => by rw [World.cell?_setCell_other _ _ _ _ (ne _ _), World.cell?_setCell_other _ _ _ _ (ne _ _)]
      simp only [kk]
      exact ⟨(K1.out.2.1.keep hb).c0, (K1.out.2.1.keep hb).c1, (K1.out.2.1.keep hb).c2, (K1.out.2.1.keep hb).c3⟩
    obtain ⟨x1, hx1⟩ : ∃ x : ByteArray, x = m ++ ⟨#[32]⟩ := ⟨_, rfl⟩
    have sx1 : x1.size = (m).size + (⟨#[32]⟩ : ByteArray).size := by rw [hx1, ByteArray.size_append]
    obtain ⟨x2, hx2⟩ : ∃ x : ByteArray, x = x1 ++ p := ⟨_, rfl⟩
    have sx2 : x2.size = (x1).size + (p : ByteArray).size := by rw [hx2, ByteArray.size_append]
    obtain ⟨x3, hx3⟩ : ∃ x : ByteArray, x = x2 ++ ⟨#[32, 72, 84, 84, 80, 47, 49, 46, 49, 13, 10, 72, 111, 115, 116, 58, 32]⟩ := ⟨_, rfl⟩
    have sx3 : x3.size = (x2).size + (⟨#[32, 72, 84, 84, 80, 47, 49, 46, 49, 13, 10, 72, 111, 115, 116, 58, 32]⟩ : ByteArray).size := by rw [hx3, ByteArray.size_append]
    obtain ⟨x4, hx4⟩ : ∃ x : ByteArray, x = x3 ++ h := ⟨_, rfl⟩
    have sx4 : x4.size = (x3).size + (h : ByteArray).size := by rw [hx4, ByteArray.size_append]
    obtain ⟨x5, hx5⟩ : ∃ x : ByteArray, x = x4 ++ ⟨#[13, 10]⟩ := ⟨_, rfl⟩
    have sx5 : x5.size = (x4).size + (⟨#[13, 10]⟩ : ByteArray).size := by rw [hx5, ByteArray.size_append]
    obtain ⟨x6, hx6⟩ : ∃ x : ByteArray, x = x5 ++ t := ⟨_, rfl⟩
    have sx6 : x6.size = (x5).size + (t : ByteArray).size := by rw [hx6, ByteArray.size_append]
    obtain ⟨x7, hx7⟩ : ∃ x : ByteArray, x = x6 ++ ⟨#[13, 10]⟩ := ⟨_, rfl⟩
    have sx7 : x7.size = (x6).size + (⟨#[13, 10]⟩ : ByteArray).size := by rw [hx7, ByteArray.size_append]
    have lit1 : (⟨#[32]⟩ : ByteArray).size = 1 := rfl
    have lit2 : (⟨#[13, 10]⟩ : ByteArray).size = 2 := rfl
    have lit3 : (⟨#[32, 72, 84, 84, 80, 47, 49, 46, 49, 13, 10, 72, 111, 115, 116, 58, 32]⟩ : ByteArray).size = 17 := rfl
    have add1 : ∀ X, (Op.stringOp .add m ⟨#[32]⟩).run Tryz.prog X = .ok (.string x1) X := fun X => by rw [hx1]; exact run_string_add_sum X _ _ (by omega)
    have add2 : ∀ X, (Op.stringOp .add x1 p).run Tryz.prog X = .ok (.string x2) X := fun X => by rw [hx2]; exact run_string_add_sum X _ _ (by omega)
    have add3 : ∀ X, (Op.stringOp .add x2 ⟨#[32, 72, 84, 84, 80, 47, 49, 46, 49, 13, 10, 72, 111, 115, 116, 58, 32]⟩).run Tryz.prog X = .ok (.string x3) X := fun X => by rw [hx3]; exact run_string_add_sum X _ _ (by omega)
    have add4 : ∀ X, (Op.stringOp .add x3 h).run Tryz.prog X = .ok (.string x4) X := fun X => by rw [hx4]; exact run_string_add_sum X _ _ (by omega)
    have add5 : ∀ X, (Op.stringOp .add x4 ⟨#[13, 10]⟩).run Tryz.prog X = .ok (.string x5) X := fun X => by rw [hx5]; exact run_string_add_sum X _ _ (by omega)
    have add6 : ∀ X, (Op.stringOp .add x5 t).run Tryz.prog X = .ok (.string x6) X := fun X => by rw [hx6]; exact run_string_add_sum X _ _ (by omega)
    have add7 : ∀ X, (Op.stringOp .add x6 ⟨#[13, 10]⟩).run Tryz.prog X = .ok (.string x7) X := fun X => by rw [hx7]; exact run_string_add_sum X _ _ (by omega)
    have HX7 : Hid (x7 = reqText m h p t) := by show _ = _; rw [hx7, hx6, hx5, hx4, hx3, hx2, hx1]; rfl
    clear hx1 hx2 hx3 hx4 hx5 hx6 hx7 HTX lit1 lit2 lit3
    clear sx1 sx2 sx3 sx4 sx5 sx6 sx7 z1 z2 z3 hts
    go_wp2_with fail
    go_region_held (fun X => X.cell? ⟨w.heap.size, 0, none⟩ = some (.string m) ∧ X.cell? ⟨w.heap.size, 1, none⟩ = some (.string h) ∧ X.cell? ⟨w.heap.size, 2, none⟩ = some (.string p) ∧ X.cell? ⟨w.heap.size, 3, none⟩ = some (.slice a n cap))
      (first | exact HST.out _ _ _ BX.out | exact HKS.out _ BX.out | exact HKS.out _ BA.out | exact HKS.out _ BW.out)
      (first
      | (go_at_call 99; refine (HP.out _ (K1.out.1.trans (BW.out.mono K1.out.1.size))).mono ?_; rintro e wa ⟨rfl, hba⟩; have BA : Hid (Below w1.heap.size w1 wa) := BW.out.trans (hba.mono BW.out.size); clear hba; obtain ⟨C, kc, hcv, hbm⟩ := bytes_of_text wa x7; obtain ⟨X, hX⟩ : ∃ X, X = wa.drew.alloc (.cells C 5 (C.size, C.size + 1)) := ⟨_, rfl⟩; have HX : Hid (Below wa.heap.size wa X) := (by rw [hX]; exact ((Below.refl _ _).drew).alloc (Nat.le_refl _) _); rw [← hX] at hcv hbm; have HM : Hid (BMine X wa.heap.size x7.data.toList) := hbm; clear hbm hX; have BX : Hid (Below w1.heap.size w1 X) := BA.out.trans (HX.out.mono BA.out.size); obtain ⟨r0, r1, rf, _⟩ := K1.out.2.2.keep BX.out; have rf0 := rf 0; have rf1 := rf 1; clear rf))
    all_goals
      (go_wp2_with fail
       have T2 := two_put (v0 := .int .i64 0) (v1 := .slice (some ⟨wa.heap.size, 0, none⟩) x7.size kc) (K1.out.2.2.keep BX.out)
       have hw1 : w.heap.size + 1 < w1.heap.size := K1.out.2.2.lt
       have bx0 := K1.out.1.trans (BX.out.mono K1.out.1.size)
       have e7 : reqL m h p l = x7.data.toList := by rw [HX7.out]; exact HT.out.symm
       refine bodyPost_ret (v := .agg #[.int .i64 0, .slice (some ⟨wa.heap.size, 0, none⟩) x7.size kc]) (by simp [results, Tryz.results36, go_sem, T2.c0, T2.c1]) rfl ⟨⟨_, _, _, (by rw [HC0.out]), .inr ⟨wa.heap.size, kc, ?_, ?_, ?_⟩⟩, (bx0.setCell (by simp) _).setCell (by simp) _⟩
       · rw [HB0.out, e7]; congr 1
       · exact Nat.le_trans K1.out.1.size BA.out.size
       · rw [HB0.out, e7]
         exact HM.out.put _ _ (by have := BA.out.size; omega))
  · have HB0 : Hid (reqB m h p l = []) := by show _ = _; rw [reqB, if_neg c0]
    have HF : Hid (∀ e w', e = .returned (.agg #[.int .i64 (reqC m h p l), .slice none 0 0]) → BGot (reqC m h p l) (reqB m h p l) w.heap.size e w') := fun e w' he => by subst he; rw [HB0.out]; exact BGot.nil _ _ _
    obtain ⟨t0, t1, tf, _⟩ := K1.out.2.2
    have tf0 := tf 0
    have tf1 := tf 1
    have HB1 : Hid (Below w.heap.size w w1) := K1.out.1
    have T2 : Hid (Two ((w1.setCell ⟨w.heap.size + 1, 0, none⟩ (.int .i64 (reqC m h p l))).setCell ⟨w.heap.size + 1, 1, none⟩ (.slice none 0 0)) (w.heap.size + 1) (.int .i64 (reqC m h p l)) (.slice none 0 0)) := two_put K1.out.2.2
    clear K1 HI HB0 tf
    obtain ⟨c, hcc⟩ : ∃ c, reqC m h p l = c := ⟨_, rfl⟩
    obtain ⟨bb, hbb⟩ : ∃ bb, reqB m h p l = bb := ⟨_, rfl⟩
    have HCC : Hid (reqC m h p l = c ∧ reqB m h p l = bb) := ⟨hcc, hbb⟩
    rw [hcc] at HF T2 c0 ⊢
    rw [hbb] at HF
    clear hcc hbb
    generalize l.length = n at *
    go_wp2_with fail
    exact bodyPost_ret (v := .agg #[.int .i64 c, .slice none 0 0]) (by simp [results, Tryz.results36, go_sem, T2.out.c0, T2.out.c1]) rfl ⟨by rw [HCC.out.1, HCC.out.2]; exact HF.out _ _ rfl, (HB1.out.setCell (by simp) _).setCell (by simp) _⟩
end Go.Proofs.YtojcjpdgjohldaaGreatDoor
/-
  Bytes appended onto what a text was turned into.
-/
namespace Go.Proofs.YtojcjpdgjohldaaGreatDoor
open Go.ChangeShapes Go.WideShapes Go.ChangeAt Go.RowKit
/-- A row of kc cells that may be written; its first ones hold l. -/
structure BFree (w : World) (g : Nat) (l : List UInt8) (kc : Nat) : Prop where
  at0 : BAt w g 0 l
  some : ∀ j, j < kc → (w.cell? ⟨g, j, none⟩).isSome = true
  free : ∀ j, j < kc → w.frozen? ⟨g, j, none⟩ = false
  le : l.length ≤ kc
  lt : g < w.heap.size
theorem BFree.keep {W W' : World} {g kc : Nat} {l : List UInt8} (h : BFree W g l kc) (hb : Below W.heap.size W W') : BFree W' g l kc :=
  ⟨h.at0.keep hb, fun j hj => by rw [hb.cell (p := ⟨g, j, none⟩) h.lt]; exact h.some j hj, fun j hj => by rw [hb.frozen (p := ⟨g, j, none⟩) h.lt]; exact h.free j hj, h.le, Nat.lt_of_lt_of_le h.lt hb.size⟩
theorem bytes_of_text2 (w : World) (s : ByteArray) : ∃ C cap, (convert 9 22 (.string s)).run Tryz.prog w = .ok (.slice (some ⟨w.heap.size, 0, none⟩) s.size cap) (w.drew.alloc (.cells C 5 (C.size, C.size + 1))) ∧ BFree (w.drew.alloc (.cells C 5 (C.size, C.size + 1))) w.heap.size s.data.toList cap := by
  have h1 := run_bytes_of_string (P := Tryz.prog) w 9 22 5 s Tryz.underlying9 Tryz.underlying22 Tryz.underlying5
  have h2 := fun cap => BRow.made w s cap _ rfl
  refine ⟨_, _, h1, ?_⟩
  have h3 := h2 (grownCap w s.size 0 5)
  have hge := grownCap_ge w s.size 0 5
  have hC : (bytesRow s (grownCap w s.size 0 5)).size = grownCap w s.size 0 5 := by
    unfold bytesRow
    rw [Array.size_append, Array.size_map, Array.size_replicate]
    show s.size + _ = _
    omega
  refine ⟨fun i c hc => ?_, fun j hj => ?_, fun j hj => ?_, by simpa using hge, ?_⟩
  · obtain ⟨hi, rfl⟩ := List.getElem?_eq_some_iff.1 hc
    rw [Nat.zero_add]
    exact h3.cell i hi
  · show (World.cell? (w.alloc _) ⟨w.heap.size, j, none⟩).isSome = true
    rw [World.cell?_alloc_mark, Array.getElem?_eq_getElem (by omega)]; rfl
  · have e := heap_alloc_new w (.cells (bytesRow s (grownCap w s.size 0 5)) 5 ((bytesRow s (grownCap w s.size 0 5)).size, (bytesRow s (grownCap w s.size 0 5)).size + 1))
    show World.frozen? (w.alloc _) ⟨w.heap.size, j, none⟩ = false
    unfold World.frozen?
    rw [e]
    simp
    omega
  · show w.heap.size < (w.drew.heap.push _).size
    rw [Array.size_push]; exact Nat.lt_succ_self _
def bytesV (l : List UInt8) : List Value := l.map fun c => Value.int .u8 (c.toNat : Int)
theorem bytesV_len (l : List UInt8) : (bytesV l).length = l.length := by simp [bytesV]
theorem bytesV_one (l : List UInt8) : ∀ u ∈ bytesV l, u.oneCell' = true := by
  intro u hu
  simp only [bytesV, List.mem_map] at hu
  obtain ⟨c, _, rfl⟩ := hu
  rfl
theorem bytesV_at {w : World} {b off : Nat} {l : List UInt8} (h : BAt w b off l) : ∀ j u, (bytesV l)[j]? = some u → w.cell? ((⟨b, off, none⟩ : Addr).add j) = some u := by
  intro j u hj
  have hadd : (⟨b, off, none⟩ : Addr).add j = ⟨b, off + j, none⟩ := by unfold Addr.add; split <;> simp_all
  rw [hadd]
  simp only [bytesV, List.getElem?_map, Option.map_eq_some_iff] at hj
  obtain ⟨c, hc, rfl⟩ := hj
  exact h j c hc
theorem below_setCells (g : Nat) : ∀ (vs : List Value) (o : Nat) (w : World), (w.setCells g o vs).heap.size = w.heap.size ∧ ∀ base, base ≤ g → Below base w (w.setCells g o vs)
  | [], _, w => ⟨rfl, fun _ _ => Below.refl _ _⟩
  | v :: r, o, w => by
    obtain ⟨h1, h2⟩ := below_setCells g r (o + 1) (w.setCell ⟨g, o, none⟩ v)
    refine ⟨by rw [World.setCells, h1]; simp, fun base hb => ?_⟩
    rw [World.setCells]
    exact ((Below.refl base w).setCell hb v).trans (h2 base hb)
set_option maxHeartbeats 1000000 in
theorem run_append_bytes (w : World) (ty : TypeId) (base g kc : Nat) (l : List UInt8) (hf : BFree w g l kc) (hbg : base ≤ g) (hbw : base ≤ w.heap.size) (b off cb : Nat) (bl : List UInt8) (hbl : BAt w b off bl) (hl : l.length + bl.length ≤ 1000000) :
    ∃ v' w', (Builtin.append_ #[22, 22] ty #[.slice (some ⟨g, 0, none⟩) l.length kc, .slice (some ⟨b, off, none⟩) bl.length cb]).run Tryz.prog w = .ok v' w' ∧ (∃ a k, v' = .slice a (l ++ bl).length k) ∧ BOwn w' base v' (l ++ bl) ∧ Below base w w' ∧ w.heap.size ≤ w'.heap.size := by
  obtain ⟨i0, hi, hz0, hz1, hz2⟩ := info_parts infoByteR
  by_cases hroom : l.length + bl.length ≤ kc
  · have hfc := run_firstCells_some (P := Tryz.prog) w i0.size bl.length ⟨b, off, none⟩ bl.length cb (bytesV bl) (by rw [bytesV_len, hz1, Nat.mul_one]) (bytesV_at hbl)
    have hst := run_storeCells_cells (P := Tryz.prog) g l.length (bytesV bl) 0 w (fun j hj => by rw [bytesV_len] at hj; exact hf.some _ (by omega)) (fun j hj => by rw [bytesV_len] at hj; exact hf.free _ (by omega)) (bytesV_one bl)
    rw [Nat.add_zero] at hst
    have hst' : (storeCells ⟨g, l.length * i0.size, none⟩ (bytesV bl) 0).run Tryz.prog w = .ok () (w.setCells g l.length (bytesV bl)) := by rw [hz1, Nat.mul_one]; exact hst
    refine ⟨.slice (some ⟨g, 0, none⟩) (l.length + bl.length) kc, w.setCells g l.length (bytesV bl), ?_, ⟨_, _, by rw [List.length_append]⟩, .inr ⟨g, kc, by rw [List.length_append], hbg, ?_⟩, (below_setCells g _ _ w).2 base hbg, by rw [(below_setCells g _ _ w).1]; exact Nat.le_refl _⟩
    · simp [Builtin.append_, run_underlying Tryz.underlying22, sizeOf, typeInfo, hi, Builtin.lenOf, hroom, hfc, Addr.add_lit, hst']
    · refine ⟨fun i c hc => ?_, fun o ho => by rw [World.frozen?_setCells]; exact hf.free o (by rw [List.length_append] at ho; omega), by rw [(below_setCells g _ _ w).1]; exact hf.lt⟩
      rw [Nat.zero_add]
      by_cases hi0 : i < l.length
      · rw [World.cell?_setCells_out g _ _ _ _ (fun _ _ => .inl hi0)]
        rw [List.getElem?_append_left hi0] at hc
        have := hf.at0 i c hc
        rwa [Nat.zero_add] at this
      · rw [List.getElem?_append_right (by omega)] at hc
        obtain ⟨hlt, hcc⟩ := List.getElem?_eq_some_iff.1 hc
        have hin := World.cell?_setCells_in g (bytesV bl) l.length w (fun j hj => by rw [bytesV_len] at hj; exact hf.some _ (by omega)) (i - l.length) (by rw [bytesV_len]; exact hlt)
        rw [show l.length + (i - l.length) = i from by omega] at hin
        rw [hin]
        simp [bytesV, hcc]
  · have holds : ∀ j u, (bytesV l)[j]? = some u → w.cell? ((⟨g, 0, none⟩ : Addr).add j) = some u := bytesV_at hf.at0
    have hr := run_append_grow (P := Tryz.prog) w 22 ty 5 i0 _ Tryz.underlying22 hi hz0 ⟨g, 0, none⟩ l.length kc (bytesV l) (by rw [bytesV_len, hz1, Nat.mul_one]) holds ⟨b, off, none⟩ bl.length cb (bytesV bl) (by rw [bytesV_len, hz1, Nat.mul_one]) (bytesV_at hbl) (by omega) (by omega) (growslice_fits (by omega) (by rw [hz2]; omega))
    have hge := grownCap_ge w (l.length + bl.length) kc 5
    refine ⟨_, _, hr, ⟨_, _, by rw [List.length_append]⟩, .inr ⟨w.heap.size, _, by rw [List.length_append], hbw, ?_⟩, ((Below.refl base w).drew).alloc (by exact hbw) _, by simp⟩
    refine ⟨fun i c hc => ?_, fun o ho => ?_, by simp⟩
    · rw [Nat.zero_add]
      show World.cell? (w.alloc _) ⟨w.heap.size, i, none⟩ = _
      rw [World.cell?_alloc_mark]
      have hlt : i < (l ++ bl).length := (List.getElem?_eq_some_iff.1 hc).1
      have e : ((bytesV l).toArray ++ (bytesV bl).toArray) = (bytesV (l ++ bl)).toArray := by simp [bytesV]
      rw [e, Array.getElem?_append_left (by simpa [bytesV_len] using hlt)]
      rw [List.getElem?_toArray]
      unfold bytesV
      rw [List.getElem?_map, hc]; rfl
    · show World.frozen? (w.alloc _) ⟨w.heap.size, o, none⟩ = false
      unfold World.frozen?
      rw [heap_alloc_new]
      simp
theorem wpList_append_bytes {ops : Array Oper} {rest : List Oper} {o : Oper} {a : Act} {Q : Exit → Act → World → Prop} (w : World) (hgd : o.guard = none) (s x : Operand)
    (ho : o.op = .call { callee := .builtin .append, args := #[s, x], argTypes := #[22, 22] }) (base g kc : Nat) (l : List UInt8) (hs : a.eval s = .slice (some ⟨g, 0, none⟩) l.length kc) (hf : BFree w g l kc) (hbg : base ≤ g) (hbw : base ≤ w.heap.size)
    (b off cb : Nat) (bl : List UInt8) (hx : a.eval x = .slice (some ⟨b, off, none⟩) bl.length cb) (hbl : BAt w b off bl) (hl : l.length + bl.length ≤ 1000000)
    (h : ∀ a' k' w', BOwn w' base (.slice a' (l ++ bl).length k') (l ++ bl) → Below base w w' → w.heap.size ≤ w'.heap.size → wpList Tryz.prog ops Q rest (a.put o.dst (.slice a' (l ++ bl).length k')) w') :
    wpList Tryz.prog ops Q (o :: rest) a w := by
  refine wpList_plain hgd fun K hK => ?_
  obtain ⟨v', w', hr, ⟨a', k', rfl⟩, h2, h3, h4⟩ := run_append_bytes w o.type base g kc l hf hbg hbw b off cb bl hbl hl
  unfold Oper.wp execOp
  simp only [ho, resolve, invoke, builtin, Sem.run_bind, Sem.run_pure, Result.andThen_ok, List.map_toArray, List.map_cons, List.map_nil, hs, hx, hr]
  exact hK _ _ (h a' k' w' h2 h3 h4)
end Go.Proofs.YtojcjpdgjohldaaGreatDoor
/-
  What PackResponse and its model answer.
-/
namespace Go.Proofs.YtojcjpdgjohldaaGreatDoor
open Go.ChangeShapes Go.WideShapes Go.ChangeAt Go.RowKit
theorem numT_small (s : Int) (h1 : 200 ≤ s) (h2 : s ≤ 599) : (num.numT s).size ≤ 100 := by
  have key : ∀ k : Fin 400, (num.numT ((k.val + 200 : Nat) : Int)).size ≤ 100 := by decide +kernel
  have := key ⟨(s - 200).toNat, by omega⟩
  rwa [show (((s - 200).toNat + 200 : Nat) : Int) = s from by omega] at this
set_option maxRecDepth 100000 in
set_option maxHeartbeats 8000000 in
theorem specPackResp_at (w : World) (s : Int) (a : Option Addr) (cap : Nat) (l : List Hdr) (db doff bc : Nat) (bl : List UInt8) (hl : l.length ≤ 1048576) (hbl : bl.length ≤ 1048576) (hi : HdsIn w a l) (hb : BAt w db doff bl) :
    Calls Tryz.prog 55 #[.agg #[.int .i64 s, .slice a l.length cap, .slice (some ⟨db, doff, none⟩) bl.length bc]] w fun e w' => BGot (respC s l bl.length) (respB s l bl) w.heap.size e w' ∧ Below w.heap.size w w' := by
  obtain ⟨W, hW⟩ : ∃ W, W = (w.alloc (.cells #[.int .i64 s, .slice a l.length cap, .slice (some ⟨db, doff, none⟩) bl.length bc] 32)).alloc (.cells #[.int .i64 0, .slice none 0 0] 29) := ⟨_, rfl⟩
  have HW : Hid (W = (w.alloc (.cells #[.int .i64 s, .slice a l.length cap, .slice (some ⟨db, doff, none⟩) bl.length bc] 32)).alloc (.cells #[.int .i64 0, .slice none 0 0] 29)) := hW
  have bW : Below w.heap.size w W := by rw [hW]; exact ((Below.refl _ _).alloc (Nat.le_refl _) _).alloc (by simp) _
  have f0 : Three W w.heap.size (.int .i64 s) (.slice a l.length cap) (.slice (some ⟨db, doff, none⟩) bl.length bc) := by rw [hW]; exact (Three.new _ _ _ _ _).keep ((Below.refl _ _).alloc (Nat.le_refl _) _)
  have t0 : Two W (w.heap.size + 1) (.int .i64 0) (.slice none 0 0) := by
    rw [hW]
    have := Two.new (w.alloc (.cells #[.int .i64 s, .slice a l.length cap, .slice (some ⟨db, doff, none⟩) bl.length bc] 32)) (.int .i64 0) (.slice none 0 0) 29
    simpa using this
  have C := specResp_any W s a cap l (some ⟨db, doff, none⟩) bl.length bc hl hbl (hi.keep bW)
  have K0 : Hid (Below w.heap.size w W ∧ Three W w.heap.size (.int .i64 s) (.slice a l.length cap) (.slice (some ⟨db, doff, none⟩) bl.length bc) ∧ Two W (w.heap.size + 1) (.int .i64 0) (.slice none 0 0)) := ⟨bW, f0, t0⟩
  have HI : Hid (∀ X, Below w.heap.size w X → HdsIn X a l ∧ BAt X db doff bl) := fun X hx => ⟨hi.keep hx, hb.keep hx⟩
  clear hW bW f0 t0 hi hb
  have hc1 := K0.out.2.1.c1
  have hc2 := K0.out.2.1.c2
  rw [HW.out] at hc1 hc2
  go_enter Tryz.func55, Tryz.ntmps55
  go_wp2_with fail
  rw [← HW.out]
  refine C.mono ?_
  rintro e w1 ⟨rfl, hb1⟩
  have K1 : Hid (Below w.heap.size w w1 ∧ Three w1 w.heap.size (.int .i64 s) (.slice a l.length cap) (.slice (some ⟨db, doff, none⟩) bl.length bc) ∧ Two w1 (w.heap.size + 1) (.int .i64 0) (.slice none 0 0)) := ⟨K0.out.1.trans (hb1.mono K0.out.1.size), K0.out.2.1.keep hb1, K0.out.2.2.keep hb1⟩
  clear C hb1 K0 HW hc1 hc2
  by_cases c0 : respC s l bl.length = 0
  · have HB0 : Hid (respB s l bl = respL s l bl) := by show _ = _; rw [respB, if_pos c0]
    obtain ⟨y1, y2, y3, y4⟩ := respC_zero c0
    have hpl := packL_len y3
    obtain ⟨s1, s2⟩ := heads_sizes y3
    obtain ⟨t, ht⟩ : ∃ t : ByteArray, t = ⟨(packL l).toArray⟩ := ⟨_, rfl⟩
    have hts : t.size ≤ 6000 := by
      rw [ht]; show (packL l).toArray.size ≤ 6000; rw [List.size_toArray]; omega
    obtain ⟨d, hd⟩ : ∃ d : ByteArray, d = num.numT s := ⟨_, rfl⟩
    have hds : d.size ≤ 100 := by rw [hd]; exact numT_small s y1 y2
    have HD : Hid (∀ X, Calls Tryz.prog 107 #[.int .i64 s] X fun e w' => e = .returned (.string d) ∧ Below X.heap.size X w') := fun X => by rw [hd]; exact num.l1Digits_all s (by omega) (by omega) X
    have HP : Hid (∀ X, Below w.heap.size w X → Calls Tryz.prog 99 #[.slice a l.length cap] X fun e w' => e = .returned (.string t) ∧ Below X.heap.size X w') := fun X hb => by rw [ht]; exact l4Pack_any X a cap l (by omega) (fun i r hr => by have := s2 i r hr; omega) (HI.out X hb).1
    obtain ⟨x1, hx1⟩ : ∃ x : ByteArray, x = ⟨#[72, 84, 84, 80, 47, 49, 46, 49, 32]⟩ ++ d := ⟨_, rfl⟩
    have sx1 : x1.size = (⟨#[72, 84, 84, 80, 47, 49, 46, 49, 32]⟩ : ByteArray).size + (d : ByteArray).size := by rw [hx1, ByteArray.size_append]
    obtain ⟨x2, hx2⟩ : ∃ x : ByteArray, x = x1 ++ ⟨#[13, 10]⟩ := ⟨_, rfl⟩
    have sx2 : x2.size = (x1 : ByteArray).size + (⟨#[13, 10]⟩ : ByteArray).size := by rw [hx2, ByteArray.size_append]
    obtain ⟨x3, hx3⟩ : ∃ x : ByteArray, x = x2 ++ t := ⟨_, rfl⟩
    have sx3 : x3.size = (x2 : ByteArray).size + (t : ByteArray).size := by rw [hx3, ByteArray.size_append]
    obtain ⟨x4, hx4⟩ : ∃ x : ByteArray, x = x3 ++ ⟨#[13, 10]⟩ := ⟨_, rfl⟩
    have sx4 : x4.size = (x3 : ByteArray).size + (⟨#[13, 10]⟩ : ByteArray).size := by rw [hx4, ByteArray.size_append]
    have lit2 : (⟨#[13, 10]⟩ : ByteArray).size = 2 := rfl
    have lit3 : (⟨#[72, 84, 84, 80, 47, 49, 46, 49, 32]⟩ : ByteArray).size = 9 := rfl
    have add1 : ∀ X, (Op.stringOp .add ⟨#[72, 84, 84, 80, 47, 49, 46, 49, 32]⟩ d).run Tryz.prog X = .ok (.string x1) X := fun X => by rw [hx1]; exact run_string_add_sum X _ _ (by omega)
    have add2 : ∀ X, (Op.stringOp .add x1 ⟨#[13, 10]⟩).run Tryz.prog X = .ok (.string x2) X := fun X => by rw [hx2]; exact run_string_add_sum X _ _ (by omega)
    have add3 : ∀ X, (Op.stringOp .add x2 t).run Tryz.prog X = .ok (.string x3) X := fun X => by rw [hx3]; exact run_string_add_sum X _ _ (by omega)
    have add4 : ∀ X, (Op.stringOp .add x3 ⟨#[13, 10]⟩).run Tryz.prog X = .ok (.string x4) X := fun X => by rw [hx4]; exact run_string_add_sum X _ _ (by omega)
    have HX4 : Hid (x4.data.toList = respH s l) := by
      show _ = _
      rw [hx4, hx3, hx2, hx1, hd, ht]
      simp only [respH, verL, happ_list]
      simp
    have hx4s : x4.data.toList.length ≤ 7000 := by
      have : x4.data.toList.length = x4.size := by simp
      omega
    have HLL : Hid (x4.size = x4.data.toList.length) := by show _ = _; simp
    clear hx1 hx2 hx3 hx4 lit2 lit3 sx1 sx2 sx3 sx4 hts hds hd ht s1 s2 hpl
    rw [c0]
    have HC0 : Hid (respC s l bl.length = 0) := c0
    clear c0 y3
    have BW : Hid (Below w1.heap.size w1 w1.drew) := (Below.refl _ _).drew
    have HKS : Hid (∀ X, Below w1.heap.size w1 X → X.cell? ⟨w.heap.size, 0, none⟩ = some (.int .i64 s) ∧ X.cell? ⟨w.heap.size, 1, none⟩ = some (.slice a l.length cap) ∧ X.cell? ⟨w.heap.size, 2, none⟩ = some (.slice (some ⟨db, doff, none⟩) bl.length bc)) := fun X hb => ⟨(K1.out.2.1.keep hb).c0, (K1.out.2.1.keep hb).c1, (K1.out.2.1.keep hb).c2⟩
    go_wp2_with fail
    go_cut [4] from 11 to 21 (fun s4 wx => ∃ (g kc : Nat), s4 = .slice (some ⟨g, 0, none⟩) x4.size kc ∧ BFree wx g x4.data.toList kc ∧ w1.heap.size ≤ g ∧ Below w1.heap.size w1 wx)
    case first =>
      go_region_held (fun X => X.cell? ⟨w.heap.size, 0, none⟩ = some (.int .i64 s) ∧ X.cell? ⟨w.heap.size, 1, none⟩ = some (.slice a l.length cap) ∧ X.cell? ⟨w.heap.size, 2, none⟩ = some (.slice (some ⟨db, doff, none⟩) bl.length bc))
        (first | exact HKS.out _ BX.out | exact HKS.out _ BB.out | exact HKS.out _ BA.out | exact HKS.out _ BW.out)
        (first
        | (go_at_call 107; refine (HD.out _).mono ?_; rintro e wa ⟨rfl, hba⟩; have BA : Hid (Below w1.heap.size w1 wa) := BW.out.trans (hba.mono BW.out.size); clear hba)
        | (go_at_call 99; refine (HP.out _ (K1.out.1.trans (BA.out.mono K1.out.1.size))).mono ?_; rintro e wb ⟨rfl, hbb⟩; have BB : Hid (Below w1.heap.size w1 wb) := BA.out.trans (hbb.mono BA.out.size); clear hbb; obtain ⟨C, kc, hcv, hbm⟩ := bytes_of_text2 wb x4; obtain ⟨X, hX⟩ : ∃ X, X = wb.drew.alloc (.cells C 5 (C.size, C.size + 1)) := ⟨_, rfl⟩; have HX : Hid (Below wb.heap.size wb X) := (by rw [hX]; exact ((Below.refl _ _).drew).alloc (Nat.le_refl _) _); rw [← hX] at hcv hbm; have HM : Hid (BFree X wb.heap.size x4.data.toList kc) := hbm; clear hbm hX; have BX : Hid (Below w1.heap.size w1 X) := BB.out.trans (HX.out.mono BB.out.size)))
      all_goals (go_wp2_with fail; go_meet; exact ⟨_, _, rfl, HM.out, BB.out.size, BX.out⟩)
    case rest =>
    obtain ⟨g, kc, rfl, hfr, hgl, hbx⟩ := hcut
    have K3 : Hid (Below w.heap.size w wc ∧ Three wc w.heap.size (.int .i64 s) (.slice a l.length cap) (.slice (some ⟨db, doff, none⟩) bl.length bc) ∧ Two wc (w.heap.size + 1) (.int .i64 0) (.slice none 0 0)) := ⟨K1.out.1.trans (hbx.mono K1.out.1.size), K1.out.2.1.keep hbx, K1.out.2.2.keep hbx⟩
    have HFR : Hid (BFree wc g x4.data.toList kc ∧ w1.heap.size ≤ g ∧ w.heap.size + 1 < w1.heap.size) := ⟨hfr, hgl, K1.out.2.2.lt⟩
    clear hfr hgl hbx HKS BW HD HP K1 add1 add2 add3 add4
    generalize wc = w3 at *
    have q2 := K3.out.2.1.c2
    rw [HLL.out]
    have HBL : Hid (BAt w3 db doff bl) := (HI.out _ K3.out.1).2
    go_wp2_with (at_builtin; refine wpList_append_bytes _ rfl (.tmp 22) (.tmp 24) rfl (w.heap.size + 2) g kc x4.data.toList rfl HFR.out.1 (by have := HFR.out; omega) (by have := K3.out.2.2.lt; omega) db doff bc bl rfl HBL.out (by omega) ?_; intro a4 k4 w4 ho4 hb4 hs4; have K4 : Hid (Below w.heap.size w w4 ∧ Two w4 (w.heap.size + 1) (.int .i64 0) (.slice none 0 0) ∧ BOwn w4 (w.heap.size + 2) (.slice a4 (x4.data.toList ++ bl).length k4) (x4.data.toList ++ bl)) := ⟨K3.out.1.trans (hb4.mono (by omega)), ⟨(by rw [hb4.cell (p := ⟨w.heap.size + 1, 0, none⟩) (Nat.lt_succ_self _)]; exact K3.out.2.2.c0), (by rw [hb4.cell (p := ⟨w.heap.size + 1, 1, none⟩) (Nat.lt_succ_self _)]; exact K3.out.2.2.c1), (fun o => by rw [hb4.frozen (p := ⟨w.heap.size + 1, o, none⟩) (Nat.lt_succ_self _)]; exact K3.out.2.2.fr o), Nat.lt_of_lt_of_le K3.out.2.2.lt hs4⟩, ho4⟩; obtain ⟨r0, r1, rf, _⟩ := K4.out.2.1; have rf0 := rf 0; have rf1 := rf 1; clear rf ho4 hb4 hs4 q2; generalize (x4.data.toList ++ bl).length = nn at *)
    have T2 := two_put (v0 := .int .i64 0) (v1 := .slice a4 nn k4) K4.out.2.1
    refine bodyPost_ret (v := .agg #[.int .i64 0, .slice a4 nn k4]) (by simp [results, Tryz.results55, go_sem, T2.c0, T2.c1]) rfl ⟨⟨_, _, _, (by rw [HC0.out]), ?_⟩, (K4.out.1.setCell (by simp) _).setCell (by simp) _⟩
    rw [HB0.out, show respL s l bl = x4.data.toList ++ bl from by rw [HX4.out]; rfl]
    rcases K4.out.2.2 with ⟨e, he⟩ | ⟨g', k', e, hg', hm'⟩
    · exact .inl ⟨e, he⟩
    · exact .inr ⟨g', k', e, by omega, hm'.put _ _ (by omega)⟩
  · have HB0 : Hid (respB s l bl = []) := by show _ = _; rw [respB, if_neg c0]
    have HF : Hid (∀ e w', e = .returned (.agg #[.int .i64 (respC s l bl.length), .slice none 0 0]) → BGot (respC s l bl.length) (respB s l bl) w.heap.size e w') := fun e w' he => by subst he; rw [HB0.out]; exact BGot.nil _ _ _
    obtain ⟨t0, t1, tf, _⟩ := K1.out.2.2
    have tf0 := tf 0
    have tf1 := tf 1
    have HB1 : Hid (Below w.heap.size w w1) := K1.out.1
    have T2 : Hid (Two ((w1.setCell ⟨w.heap.size + 1, 0, none⟩ (.int .i64 (respC s l bl.length))).setCell ⟨w.heap.size + 1, 1, none⟩ (.slice none 0 0)) (w.heap.size + 1) (.int .i64 (respC s l bl.length)) (.slice none 0 0)) := two_put K1.out.2.2
    clear K1 HI HB0 tf
    obtain ⟨c, hcc⟩ : ∃ c, respC s l bl.length = c := ⟨_, rfl⟩
    obtain ⟨bb, hbb⟩ : ∃ bb, respB s l bl = bb := ⟨_, rfl⟩
    have HCC : Hid (respC s l bl.length = c ∧ respB s l bl = bb) := ⟨hcc, hbb⟩
    rw [hcc] at HF T2 c0 ⊢
    rw [hbb] at HF
    clear hcc hbb
    generalize l.length = n at *
    go_wp2_with fail
    exact bodyPost_ret (v := .agg #[.int .i64 c, .slice none 0 0]) (by simp [results, Tryz.results55, go_sem, T2.out.c0, T2.out.c1]) rfl ⟨by rw [HCC.out.1, HCC.out.2]; exact HF.out _ _ rfl, (HB1.out.setCell (by simp) _).setCell (by simp) _⟩
set_option maxRecDepth 100000 in
set_option maxHeartbeats 8000000 in
theorem implPackResp_at (E : Errs) (w : World) (s : Int) (a : Option Addr) (cap : Nat) (l : List Hdr) (db doff bc : Nat) (bl : List UInt8) (hl : l.length ≤ 1048576) (hbl : bl.length ≤ 1048576) (hset : SetIs w) (hE : ErrsIs w E) (hpow : num.PowIs w) (hi : HdsIn w a l) (hb : BAt w db doff bl) :
    Calls Tryz.prog 16 #[.agg #[.int .i64 s, .slice a l.length cap, .slice (some ⟨db, doff, none⟩) bl.length bc]] w fun e w' => BGot (respC s l bl.length) (respB s l bl) w.heap.size e w' ∧ Below w.heap.size w w' := by
  obtain ⟨W, hW⟩ : ∃ W, W = (w.alloc (.cells #[.int .i64 s, .slice a l.length cap, .slice (some ⟨db, doff, none⟩) bl.length bc] 32)).alloc (.cells #[.int .i64 0, .slice none 0 0] 29) := ⟨_, rfl⟩
  have HW : Hid (W = (w.alloc (.cells #[.int .i64 s, .slice a l.length cap, .slice (some ⟨db, doff, none⟩) bl.length bc] 32)).alloc (.cells #[.int .i64 0, .slice none 0 0] 29)) := hW
  have bW : Below w.heap.size w W := by rw [hW]; exact ((Below.refl _ _).alloc (Nat.le_refl _) _).alloc (by simp) _
  have f0 : Three W w.heap.size (.int .i64 s) (.slice a l.length cap) (.slice (some ⟨db, doff, none⟩) bl.length bc) := by rw [hW]; exact (Three.new _ _ _ _ _).keep ((Below.refl _ _).alloc (Nat.le_refl _) _)
  have t0 : Two W (w.heap.size + 1) (.int .i64 0) (.slice none 0 0) := by
    rw [hW]
    have := Two.new (w.alloc (.cells #[.int .i64 s, .slice a l.length cap, .slice (some ⟨db, doff, none⟩) bl.length bc] 32)) (.int .i64 0) (.slice none 0 0) 29
    simpa using this
  have C := implResp_any E W s a cap l (some ⟨db, doff, none⟩) bl.length bc hl hbl (hset.below bW) (hE.below bW) (hi.keep bW)
  have K0 : Hid (Below w.heap.size w W ∧ Three W w.heap.size (.int .i64 s) (.slice a l.length cap) (.slice (some ⟨db, doff, none⟩) bl.length bc) ∧ Two W (w.heap.size + 1) (.int .i64 0) (.slice none 0 0)) := ⟨bW, f0, t0⟩
  have HI : Hid (∀ X, Below w.heap.size w X → (HdsIn X a l ∧ BAt X db doff bl) ∧ SetIs X ∧ num.PowIs X) := fun X hx => ⟨⟨hi.keep hx, hb.keep hx⟩, hset.below hx, hpow.below hx⟩
  clear hW bW f0 t0 hi hb hset hE hpow
  have hc1 := K0.out.2.1.c1
  have hc2 := K0.out.2.1.c2
  rw [HW.out] at hc1 hc2
  go_enter Tryz.func16, Tryz.ntmps16
  go_wp2_with fail
  rw [← HW.out]
  refine C.mono ?_
  rintro e w1 ⟨rfl, hb1⟩
  have K1 : Hid (Below w.heap.size w w1 ∧ Three w1 w.heap.size (.int .i64 s) (.slice a l.length cap) (.slice (some ⟨db, doff, none⟩) bl.length bc) ∧ Two w1 (w.heap.size + 1) (.int .i64 0) (.slice none 0 0)) := ⟨K0.out.1.trans (hb1.mono K0.out.1.size), K0.out.2.1.keep hb1, K0.out.2.2.keep hb1⟩
  clear C hb1 K0 HW hc1 hc2
  by_cases c0 : respC s l bl.length = 0
  · have HB0 : Hid (respB s l bl = respL s l bl) := by show _ = _; rw [respB, if_pos c0]
    obtain ⟨y1, y2, y3, y4⟩ := respC_zero c0
    have hpl := packL_len y3
    obtain ⟨s1, s2⟩ := heads_sizes y3
    obtain ⟨t, ht⟩ : ∃ t : ByteArray, t = ⟨(packL l).toArray⟩ := ⟨_, rfl⟩
    have hts : t.size ≤ 6000 := by
      rw [ht]; show (packL l).toArray.size ≤ 6000; rw [List.size_toArray]; omega
    obtain ⟨d, hd⟩ : ∃ d : ByteArray, d = num.numT s := ⟨_, rfl⟩
    have hds : d.size ≤ 100 := by rw [hd]; exact numT_small s y1 y2
    have HD : Hid (∀ X, Below w.heap.size w X → Calls Tryz.prog 66 #[.int .i64 s] X fun e w' => e = .returned (.agg #[.int .i64 0, .string d]) ∧ Below X.heap.size X w') := fun X hb => by rw [hd]; exact num.implNum_any s X (by omega) (by omega) (HI.out X hb).2.2
    have HP : Hid (∀ X, Below w.heap.size w X → Calls Tryz.prog 64 #[.slice a l.length cap] X fun e w' => e = .returned (.agg #[.int .i64 0, .string t]) ∧ Below X.heap.size X w') := fun X hb => by rw [ht]; exact implPack_ok X a cap l y3 (HI.out X hb).2.1 (HI.out X hb).1.1
    obtain ⟨x1, hx1⟩ : ∃ x : ByteArray, x = ⟨#[72, 84, 84, 80, 47, 49, 46, 49, 32]⟩ ++ d := ⟨_, rfl⟩
    have sx1 : x1.size = (⟨#[72, 84, 84, 80, 47, 49, 46, 49, 32]⟩ : ByteArray).size + (d : ByteArray).size := by rw [hx1, ByteArray.size_append]
    obtain ⟨x2, hx2⟩ : ∃ x : ByteArray, x = x1 ++ ⟨#[13, 10]⟩ := ⟨_, rfl⟩
    have sx2 : x2.size = (x1 : ByteArray).size + (⟨#[13, 10]⟩ : ByteArray).size := by rw [hx2, ByteArray.size_append]
    obtain ⟨x3, hx3⟩ : ∃ x : ByteArray, x = x2 ++ t := ⟨_, rfl⟩
    have sx3 : x3.size = (x2 : ByteArray).size + (t : ByteArray).size := by rw [hx3, ByteArray.size_append]
    obtain ⟨x4, hx4⟩ : ∃ x : ByteArray, x = x3 ++ ⟨#[13, 10]⟩ := ⟨_, rfl⟩
    have sx4 : x4.size = (x3 : ByteArray).size + (⟨#[13, 10]⟩ : ByteArray).size := by rw [hx4, ByteArray.size_append]
    have lit2 : (⟨#[13, 10]⟩ : ByteArray).size = 2 := rfl
    have lit3 : (⟨#[72, 84, 84, 80, 47, 49, 46, 49, 32]⟩ : ByteArray).size = 9 := rfl
    have add1 : ∀ X, (Op.stringOp .add ⟨#[72, 84, 84, 80, 47, 49, 46, 49, 32]⟩ d).run Tryz.prog X = .ok (.string x1) X := fun X => by rw [hx1]; exact run_string_add_sum X _ _ (by omega)
    have add2 : ∀ X, (Op.stringOp .add x1 ⟨#[13, 10]⟩).run Tryz.prog X = .ok (.string x2) X := fun X => by rw [hx2]; exact run_string_add_sum X _ _ (by omega)
    have add3 : ∀ X, (Op.stringOp .add x2 t).run Tryz.prog X = .ok (.string x3) X := fun X => by rw [hx3]; exact run_string_add_sum X _ _ (by omega)
    have add4 : ∀ X, (Op.stringOp .add x3 ⟨#[13, 10]⟩).run Tryz.prog X = .ok (.string x4) X := fun X => by rw [hx4]; exact run_string_add_sum X _ _ (by omega)
    have HX4 : Hid (x4.data.toList = respH s l) := by
      show _ = _
      rw [hx4, hx3, hx2, hx1, hd, ht]
      simp only [respH, verL, happ_list]
      simp
    have hx4s : x4.data.toList.length ≤ 7000 := by
      have : x4.data.toList.length = x4.size := by simp
      omega
    have HLL : Hid (x4.size = x4.data.toList.length) := by show _ = _; simp
    clear hx1 hx2 hx3 hx4 lit2 lit3 sx1 sx2 sx3 sx4 hts hds hd ht s1 s2 hpl
    rw [c0]
    have HC0 : Hid (respC s l bl.length = 0) := c0
    clear c0 y3
    have q0 := K1.out.2.1.c0
    have C2 := HD.out w1 K1.out.1
    go_wp2_with fail
    refine C2.mono ?_
    rintro e wa ⟨rfl, hba⟩
    have KA : Hid (Below w.heap.size w wa ∧ Three wa w.heap.size (.int .i64 s) (.slice a l.length cap) (.slice (some ⟨db, doff, none⟩) bl.length bc) ∧ Two wa (w.heap.size + 1) (.int .i64 0) (.slice none 0 0)) := ⟨K1.out.1.trans (hba.mono K1.out.1.size), K1.out.2.1.keep hba, K1.out.2.2.keep hba⟩
    clear C2 hba q0 K1 HD
    have hft := f_field_text
    have q1 := KA.out.2.1.c1
    have C3 := HP.out wa KA.out.1
    go_wp2_with fail
    refine C3.mono ?_
    rintro e wb ⟨rfl, hbb⟩
    have KB : Hid (Below w.heap.size w wb ∧ Three wb w.heap.size (.int .i64 s) (.slice a l.length cap) (.slice (some ⟨db, doff, none⟩) bl.length bc) ∧ Two wb (w.heap.size + 1) (.int .i64 0) (.slice none 0 0)) := ⟨KA.out.1.trans (hbb.mono KA.out.1.size), KA.out.2.1.keep hbb, KA.out.2.2.keep hbb⟩
    clear C3 hbb q1 KA HP
    obtain ⟨C, kc, hcv, hbm⟩ := bytes_of_text2 wb x4
    obtain ⟨w3, hX⟩ : ∃ X, X = wb.drew.alloc (.cells C 5 (C.size, C.size + 1)) := ⟨_, rfl⟩
    have hbx : Below wb.heap.size wb w3 := by rw [hX]; exact ((Below.refl _ _).drew).alloc (Nat.le_refl _) _
    rw [← hX] at hcv hbm
    have K3 : Hid (Below w.heap.size w w3 ∧ Three w3 w.heap.size (.int .i64 s) (.slice a l.length cap) (.slice (some ⟨db, doff, none⟩) bl.length bc) ∧ Two w3 (w.heap.size + 1) (.int .i64 0) (.slice none 0 0)) := ⟨KB.out.1.trans (hbx.mono KB.out.1.size), KB.out.2.1.keep hbx, KB.out.2.2.keep hbx⟩
    obtain ⟨g, hg⟩ : ∃ g, g = wb.heap.size := ⟨_, rfl⟩
    rw [← hg] at hcv hbm
    have HFR : Hid (BFree w3 g x4.data.toList kc ∧ wb.heap.size ≤ g ∧ w.heap.size + 1 < wb.heap.size) := ⟨hbm, by omega, KB.out.2.2.lt⟩
    clear hbm hX hbx KB hg
    have q2 := K3.out.2.1.c2
    rw [HLL.out] at hcv
    have HBL : Hid (BAt w3 db doff bl) := (HI.out _ K3.out.1).1.2
    go_wp2_with (at_builtin; refine wpList_append_bytes _ rfl (.tmp 26) (.tmp 28) rfl (w.heap.size + 2) g kc x4.data.toList rfl HFR.out.1 (by have := HFR.out; omega) (by have := K3.out.2.2.lt; omega) db doff bc bl rfl HBL.out (by omega) ?_; intro a4 k4 w4 ho4 hb4 hs4; have K4 : Hid (Below w.heap.size w w4 ∧ Two w4 (w.heap.size + 1) (.int .i64 0) (.slice none 0 0) ∧ BOwn w4 (w.heap.size + 2) (.slice a4 (x4.data.toList ++ bl).length k4) (x4.data.toList ++ bl)) := ⟨K3.out.1.trans (hb4.mono (by omega)), ⟨(by rw [hb4.cell (p := ⟨w.heap.size + 1, 0, none⟩) (Nat.lt_succ_self _)]; exact K3.out.2.2.c0), (by rw [hb4.cell (p := ⟨w.heap.size + 1, 1, none⟩) (Nat.lt_succ_self _)]; exact K3.out.2.2.c1), (fun o => by rw [hb4.frozen (p := ⟨w.heap.size + 1, o, none⟩) (Nat.lt_succ_self _)]; exact K3.out.2.2.fr o), Nat.lt_of_lt_of_le K3.out.2.2.lt hs4⟩, ho4⟩; obtain ⟨r0, r1, rf, _⟩ := K4.out.2.1; have rf0 := rf 0; have rf1 := rf 1; clear rf ho4 hb4 hs4 q2; generalize (x4.data.toList ++ bl).length = nn at *)
    have T2 := two_put (v0 := .int .i64 0) (v1 := .slice a4 nn k4) K4.out.2.1
    refine bodyPost_ret (v := .agg #[.int .i64 0, .slice a4 nn k4]) (by simp [results, Tryz.results16, go_sem, T2.c0, T2.c1]) rfl ⟨⟨_, _, _, (by rw [HC0.out]), ?_⟩, (K4.out.1.setCell (by simp) _).setCell (by simp) _⟩
    rw [HB0.out, show respL s l bl = x4.data.toList ++ bl from by rw [HX4.out]; rfl]
    rcases K4.out.2.2 with ⟨e, he⟩ | ⟨g', k', e, hg', hm'⟩
    · exact .inl ⟨e, he⟩
    · exact .inr ⟨g', k', e, by omega, hm'.put _ _ (by omega)⟩
  · have HB0 : Hid (respB s l bl = []) := by show _ = _; rw [respB, if_neg c0]
    have HF : Hid (∀ e w', e = .returned (.agg #[.int .i64 (respC s l bl.length), .slice none 0 0]) → BGot (respC s l bl.length) (respB s l bl) w.heap.size e w') := fun e w' he => by subst he; rw [HB0.out]; exact BGot.nil _ _ _
    obtain ⟨t0, t1, tf, _⟩ := K1.out.2.2
    have tf0 := tf 0
    have tf1 := tf 1
    have HB1 : Hid (Below w.heap.size w w1) := K1.out.1
    have T2 : Hid (Two ((w1.setCell ⟨w.heap.size + 1, 0, none⟩ (.int .i64 (respC s l bl.length))).setCell ⟨w.heap.size + 1, 1, none⟩ (.slice none 0 0)) (w.heap.size + 1) (.int .i64 (respC s l bl.length)) (.slice none 0 0)) := two_put K1.out.2.2
    clear K1 HI HB0 tf
    obtain ⟨c, hcc⟩ : ∃ c, respC s l bl.length = c := ⟨_, rfl⟩
    obtain ⟨bb, hbb⟩ : ∃ bb, respB s l bl = bb := ⟨_, rfl⟩
    have HCC : Hid (respC s l bl.length = c ∧ respB s l bl = bb) := ⟨hcc, hbb⟩
    rw [hcc] at HF T2 c0 ⊢
    rw [hbb] at HF
    clear hcc hbb
    generalize l.length = n at *
    go_wp2_with fail
    exact bodyPost_ret (v := .agg #[.int .i64 c, .slice none 0 0]) (by simp [results, Tryz.results16, go_sem, T2.out.c0, T2.out.c1]) rfl ⟨by rw [HCC.out.1, HCC.out.2]; exact HF.out _ _ rfl, (HB1.out.setCell (by simp) _).setCell (by simp) _⟩
end Go.Proofs.YtojcjpdgjohldaaGreatDoor
/-
  The law of PackResponse.
-/
namespace Go.Proofs.YtojcjpdgjohldaaGreatDoor
open Go.ChangeShapes Go.WideShapes Go.ChangeAt Go.RowKit
theorem respB_len (s : Int) (l : List Hdr) (bl : List UInt8) : (respB s l bl).length ≤ 1048576 := by
  unfold respB
  split
  · rename_i c0
    obtain ⟨y1, y2, y3, y4⟩ := respC_zero c0
    have hpl := packL_len y3
    have h20 := (headsC_zero y3).1
    have e1 : (num.numT s).data.toList.length ≤ 100 := by simpa using numT_small s y1 y2
    simp only [respL, respH, verL, List.length_append, List.length_cons, List.length_nil]
    omega
  · simp
/-- What lies in memory while the law goes on. -/
structure PP (w : World) (s : Int) (a : Option Addr) (n cap : Nat) (l : List Hdr) (b : Option Addr) (bn bc : Nat) (c : Int) (L : List UInt8) (X1 b1 : Nat) (v1 : Value) (bx dx bl : Nat) (X2 b2 : Nat) (v2 : Value) (X : World) : Prop where
  bb : Below w.heap.size w X
  fa : Three X w.heap.size (.int .i64 s) (.slice a n cap) (.slice b bn bc)
  r1 : Two X X1 (.int .i64 c) v1
  o1 : BOwn X b1 v1 L
  fx : Three X bl (.int .i64 s) (.slice (some ⟨bx, 0, none⟩) n n) (.slice (some ⟨dx, 0, none⟩) bn bn)
  r2 : Two X X2 (.int .i64 c) v2
theorem PP.keep {w : World} {s : Int} {a : Option Addr} {n cap : Nat} {l : List Hdr} {b : Option Addr} {bn bc : Nat} {c : Int} {L : List UInt8} {X1 b1 : Nat} {v1 : Value} {bx dx bl X2 b2 : Nat} {v2 : Value} {X X' : World} (k : PP w s a n cap l b bn bc c L X1 b1 v1 bx dx bl X2 b2 v2 X) (hb : Below X.heap.size X X') : PP w s a n cap l b bn bc c L X1 b1 v1 bx dx bl X2 b2 v2 X' :=
  ⟨k.bb.trans (hb.mono k.bb.size), k.fa.keep hb, k.r1.keep hb, k.o1.keep hb, k.fx.keep hb, k.r2.keep hb⟩
theorem PP.out {w : World} {s : Int} {a : Option Addr} {n cap : Nat} {l : List Hdr} {b : Option Addr} {bn bc : Nat} {c : Int} {L : List UInt8} {X1 b1 : Nat} {v1 : Value} {bx dx bl X2 b2 : Nat} {v2 : Value} {X X' : World} {v : Value} (k : PP w s a n cap l b bn bc c L X1 b1 v1 bx dx bl X2 b2 v2 X) (ho : OutV v X X') (hb : Below w.heap.size X X') (e0 : v.ownBlock ≠ some w.heap.size) (e1 : v.ownBlock ≠ some X1) (e2 : ∀ b, v1.ownBlock = some b → v.ownBlock ≠ some b) (e3 : v.ownBlock ≠ some bl) (e4 : v.ownBlock ≠ some X2) : PP w s a n cap l b bn bc c L X1 b1 v1 bx dx bl X2 b2 v2 X' :=
  ⟨k.bb.trans hb, k.fa.out ho e0, k.r1.out ho e1, k.o1.out ho e2, k.fx.out ho e3, k.r2.out ho e4⟩
set_option maxRecDepth 100000 in
set_option maxHeartbeats 32000000 in
theorem lawPackResponse (E : Errs) (w : World) (s : Int) (a : Option Addr) (cap : Nat) (l : List Hdr) (b : Option Addr) (bc : Nat) (bl0 : List UInt8) (hset : SetIs w) (hE : ErrsIs w E) (hpow : num.PowIs w) (hl : l.length ≤ maxLen) (hz : SmallHdrs l) (hi : HdsIn w a l) (hbl : bl0.length ≤ maxLen) (hib : BIn w b bl0) :
    Calls Tryz.prog 10 #[.agg #[.int .i64 s, .slice a l.length cap, .slice b bl0.length bc]] w fun e w' => e = .returned (.bool true) ∧ Below w.heap.size w w' := by
  obtain ⟨W, hW⟩ : ∃ W, W = w.alloc (.cells #[.int .i64 s, .slice a l.length cap, .slice b bl0.length bc] 73) := ⟨_, rfl⟩
  have HW : Hid (W = w.alloc (.cells #[.int .i64 s, .slice a l.length cap, .slice b bl0.length bc] 73)) := hW
  have bW : Below w.heap.size w W := by rw [hW]; exact (Below.refl _ _).alloc (Nat.le_refl _) _
  have fW : Three W w.heap.size (.int .i64 s) (.slice a l.length cap) (.slice b bl0.length bc) := by rw [hW]; exact Three.new _ _ _ _ _
  have K0 : Hid (Below w.heap.size w W ∧ Three W w.heap.size (.int .i64 s) (.slice a l.length cap) (.slice b bl0.length bc)) := ⟨bW, fW⟩
  have HZ := szResponse_any W s a cap l b bl0.length bc hl hz (hi.keep bW) hbl 1048576 (by omega) (by omega)
  have HR : Hid (¬ szP 1048576 l bl0.length < 0 → l.length ≤ 1048576 ∧ bl0.length ≤ 1048576 ∧ szP 1048576 l bl0.length ≤ 1048576) := szP_room (by omega)
  have HI : Hid (∀ X, Below w.heap.size w X → HdsIn X a l ∧ BIn X b bl0) := fun X hb => ⟨hi.keep hb, hib.keep hb⟩
  have HPW : Hid (∀ X, Below w.heap.size w X → num.PowIs X) := fun X hb => hpow.below hb
  have HS : Hid (∀ X, Below w.heap.size w X → SetIs X) := fun X hb => hset.below hb
  have HE0 : Hid (∀ X, Below w.heap.size w X → ErrsIs X E) := fun X hb => hE.below hb
  generalize szP 1048576 l bl0.length = z at *
  clear hW bW fW hi hset hE hz hl hbl hib hpow
  go_enter Tryz.func10, Tryz.ntmps10
  go_wp2_with fail
  rw [← HW.out]
  refine HZ.mono ?_
  rintro e w1 ⟨rfl, hb1⟩
  have K1 : Hid (Below w.heap.size w w1 ∧ Three w1 w.heap.size (.int .i64 s) (.slice a l.length cap) (.slice b bl0.length bc)) := ⟨K0.out.1.trans (hb1.mono K0.out.1.size), K0.out.2.keep hb1⟩
  clear HZ HW hb1 K0
  by_cases cz : z < 0
  · have KB : Hid (Below w.heap.size w w1) := K1.out.1
    clear K1 HR HI HS HE0 HPW
    go_wp2_with fail
    go_ret
    exact ⟨rfl, KB.out⟩
  obtain ⟨y4, y3, y5⟩ := HR.out (by omega)
  have HT : Hid (∀ X, Below w.heap.size w X → Calls Tryz.prog 56 #[.agg #[.int .i64 s, .slice a l.length cap, .slice b bl0.length bc]] X fun e w' => (∃ B, e = .returned (.agg #[.int .i64 s, .slice (some ⟨X.heap.size + 3, 0, none⟩) l.length l.length, .slice (some ⟨B, 0, none⟩) bl0.length bl0.length]) ∧ QMine w' (X.heap.size + 3) l ∧ BMine w' B bl0 ∧ X.heap.size + 3 < B) ∧ Below X.heap.size X w') := fun X hb => toResponse_any X s a cap l b bc bl0 y4 y3 (HI.out X hb).1 (HI.out X hb).2
  have HF : Hid (∀ X k d, QMine X k l → BMine X d bl0 → Calls Tryz.prog 55 #[.agg #[.int .i64 s, .slice (some ⟨k, 0, none⟩) l.length l.length, .slice (some ⟨d, 0, none⟩) bl0.length bl0.length]] X fun e w' => (∃ a n k, e = .returned (.agg #[.int .i64 (respC s l bl0.length), .slice a n k]) ∧ BOwn w' X.heap.size (.slice a n k) (respB s l bl0)) ∧ Below X.heap.size X w') := fun X k d hq hd => specPackResp_at X s _ _ l d 0 _ bl0 y4 y3 (.inr ⟨k, 0, rfl, hq.at0⟩) hd.at0
  have HG : Hid (∀ X k d, Below w.heap.size w X → QMine X k l → BMine X d bl0 → Calls Tryz.prog 16 #[.agg #[.int .i64 s, .slice (some ⟨k, 0, none⟩) l.length l.length, .slice (some ⟨d, 0, none⟩) bl0.length bl0.length]] X fun e w' => (∃ a n k, e = .returned (.agg #[.int .i64 (respC s l bl0.length), .slice a n k]) ∧ BOwn w' X.heap.size (.slice a n k) (respB s l bl0)) ∧ Below X.heap.size X w') := fun X k d hb hq hd => implPackResp_at E X s _ _ l d 0 _ bl0 y4 y3 (HS.out X hb) (HE0.out X hb) (HPW.out X hb) (.inr ⟨k, 0, rfl, hq.at0⟩) hd.at0
  have HQ : Hid (∀ X k1 k2 d1 d2, QMine X k1 l → QMine X k2 l → BMine X d1 bl0 → BMine X d2 bl0 → Calls Tryz.prog 57 #[.agg #[.int .i64 s, .slice (some ⟨k1, 0, none⟩) l.length l.length, .slice (some ⟨d1, 0, none⟩) bl0.length bl0.length], .agg #[.int .i64 s, .slice (some ⟨k2, 0, none⟩) l.length l.length, .slice (some ⟨d2, 0, none⟩) bl0.length bl0.length]] X fun e w' => e = .returned (.bool true) ∧ Below X.heap.size X w') := fun X k1 k2 d1 d2 h1 h2 h3 h4 => eqResponse_same X s k1 k2 l d1 d2 bl0 y4 y3 h1.at0 h2.at0 h3 h4
  have HMK : Hid (∀ X B D, QMine X B l → BMine X D bl0 → w.heap.size ≤ B → w.heap.size ≤ D → B ≠ D → w.heap.size ≤ X.heap.size → ∃ q : Int, ¬ q < 0 ∧ Calls Tryz.prog 58 #[.agg #[.int .i64 s, .slice (some ⟨B, 0, none⟩) l.length l.length, .slice (some ⟨D, 0, none⟩) bl0.length bl0.length], .int .i64 1] X fun e w' => e = .returned (.int .i64 q) ∧ (∃ w1, OutV (.slice (some ⟨B, 0, none⟩) l.length l.length) X w1 ∧ OutV (.slice (some ⟨D, 0, none⟩) bl0.length bl0.length) w1 w' ∧ Below w.heap.size X w1 ∧ Below w.heap.size w1 w')) := fun X B D hq hd hb hbd hne hx => markResponse_any X s B D w.heap.size l bl0 y4 y3 hq hd hb hbd hne hx
  have hLL : (respB s l bl0).length ≤ 1048576 := respB_len s l bl0
  clear HR HI HS HE0 HPW y5
  generalize respC s l bl0.length = c at *
  generalize respB s l bl0 = L at *
  generalize l.length = n at *
  generalize bl0.length = bn at *
  have C1 := HT.out w1 K1.out.1
  obtain ⟨q0, q1, q2, _, _⟩ := K1.out.2
  go_wp2_with fail
  refine C1.mono ?_
  rintro e w2 ⟨⟨d2, rfl, hm2, hd2, _⟩, hb2⟩
  have K2 : Hid (Below w.heap.size w w2 ∧ Three w2 w.heap.size (.int .i64 s) (.slice a n cap) (.slice b bn bc)) := ⟨K1.out.1.trans (hb2.mono K1.out.1.size), K1.out.2.keep hb2⟩
  have C2 := HF.out w2 _ d2 hm2 hd2
  clear K1 C1 q0 q1 q2 hb2 hm2 hd2 HF
  go_wp2_with fail
  refine C2.mono ?_
  rintro e w3 ⟨⟨a1, n1, k1, rfl, ho3⟩, hb3⟩
  obtain ⟨V, hV⟩ : ∃ V, V = w3.alloc (.cells #[.int .i64 c, .slice a1 n1 k1] 29) := ⟨_, rfl⟩
  have HV : Hid (V = w3.alloc (.cells #[.int .i64 c, .slice a1 n1 k1] 29)) := hV
  have aV : Below w3.heap.size w3 V := by rw [hV]; exact (Below.refl _ _).alloc (Nat.le_refl _) _
  have tV : Two V w3.heap.size (.int .i64 c) (.slice a1 n1 k1) := by rw [hV]; exact Two.new _ _ _ _
  have b3 := K2.out.1.trans (hb3.mono K2.out.1.size)
  have K3 : Hid (Below w.heap.size w V ∧ Three V w.heap.size (.int .i64 s) (.slice a n cap) (.slice b bn bc) ∧ Two V w3.heap.size (.int .i64 c) (.slice a1 n1 k1) ∧ BOwn V w2.heap.size (.slice a1 n1 k1) L ∧ (∀ b, (Value.slice a1 n1 k1).ownBlock = some b → b < w3.heap.size) ∧ w.heap.size < w2.heap.size ∧ w2.heap.size ≤ w3.heap.size ∧ w3.heap.size < V.heap.size) := ⟨b3.trans (aV.mono b3.size), (K2.out.2.keep hb3).keep aV, tV, ho3.keep aV, fun b hb => (ho3.block b hb).2, K2.out.2.lt, hb3.size, tV.lt⟩
  clear K2 C2 hb3 ho3 hV aV tV b3
  have C3 := HT.out V K3.out.1
  obtain ⟨q0, q1, q2, _, _⟩ := K3.out.2.1
  rw [HV.out] at q0 q1 q2
  go_wp2_with fail
  rw [← HV.out]
  refine C3.mono ?_
  rintro e w4 ⟨⟨dx, rfl, hm4, hd4, hdx⟩, hb4⟩
  clear q0 q1 q2 HV
  generalize w3.heap.size = X1 at *
  generalize w2.heap.size = b1 at *
  obtain ⟨U, hU⟩ : ∃ U, U = w4.alloc (.cells #[.int .i64 s, .slice (some ⟨V.heap.size + 3, 0, none⟩) n n, .slice (some ⟨dx, 0, none⟩) bn bn] 32) := ⟨_, rfl⟩
  have HU : Hid (U = w4.alloc (.cells #[.int .i64 s, .slice (some ⟨V.heap.size + 3, 0, none⟩) n n, .slice (some ⟨dx, 0, none⟩) bn bn] 32)) := hU
  have aU : Below w4.heap.size w4 U := by rw [hU]; exact (Below.refl _ _).alloc (Nat.le_refl _) _
  have fU : Three U w4.heap.size (.int .i64 s) (.slice (some ⟨V.heap.size + 3, 0, none⟩) n n) (.slice (some ⟨dx, 0, none⟩) bn bn) := by rw [hU]; exact Three.new _ _ _ _ _
  have b4 := K3.out.1.trans (hb4.mono K3.out.1.size)
  have K4 : Hid (Below w.heap.size w U ∧ Three U w.heap.size (.int .i64 s) (.slice a n cap) (.slice b bn bc) ∧ (Two U X1 (.int .i64 c) (.slice a1 n1 k1) ∧ BOwn U b1 (.slice a1 n1 k1) L) ∧ Three U w4.heap.size (.int .i64 s) (.slice (some ⟨V.heap.size + 3, 0, none⟩) n n) (.slice (some ⟨dx, 0, none⟩) bn bn) ∧ QMine U (V.heap.size + 3) l ∧ BMine U dx bl0) := ⟨b4.trans (aU.mono b4.size), (K3.out.2.1.keep hb4).keep aU, ⟨(K3.out.2.2.1.keep hb4).keep aU, (K3.out.2.2.2.1.keep hb4).keep aU⟩, fU, hm4.keep aU, hd4.keep aU⟩
  have O4 : Hid ((∀ b, (Value.slice a1 n1 k1).ownBlock = some b → b < X1) ∧ w.heap.size < b1 ∧ b1 ≤ X1 ∧ X1 < V.heap.size + 3 ∧ V.heap.size + 3 < w4.heap.size ∧ V.heap.size + 3 < dx ∧ dx < w4.heap.size) := ⟨K3.out.2.2.2.2.1, K3.out.2.2.2.2.2.1, K3.out.2.2.2.2.2.2.1, (by have := K3.out.2.2.2.2.2.2.2; omega), hm4.lt, hdx, hd4.lt⟩
  clear K3 C3 hb4 hm4 hd4 hdx hU aU fU b4
  have C4 := HG.out U _ dx K4.out.1 K4.out.2.2.2.2.1 K4.out.2.2.2.2.2
  go_wp2_with fail
  rw [← HU.out]
  refine C4.mono ?_
  rintro e w5 ⟨⟨a2, n2, k2, rfl, ho5⟩, hb5⟩
  obtain ⟨Y, hY⟩ : ∃ Y, Y = w5.alloc (.cells #[.int .i64 c, .slice a2 n2 k2] 29) := ⟨_, rfl⟩
  have HY : Hid (Y = w5.alloc (.cells #[.int .i64 c, .slice a2 n2 k2] 29)) := hY
  have aY : Below w5.heap.size w5 Y := by rw [hY]; exact (Below.refl _ _).alloc (Nat.le_refl _) _
  have tY : Two Y w5.heap.size (.int .i64 c) (.slice a2 n2 k2) := by rw [hY]; exact Two.new _ _ _ _
  have b5 := K4.out.1.trans (hb5.mono K4.out.1.size)
  have hUs : w4.heap.size < U.heap.size := K4.out.2.2.2.1.lt
  clear HU
  generalize V.heap.size + 3 = bx at *
  generalize w4.heap.size = bl at *
  have K5 : Hid (PP w s a n cap l b bn bc c L X1 b1 (.slice a1 n1 k1) bx dx bl w5.heap.size U.heap.size (.slice a2 n2 k2) Y) := ⟨b5.trans (aY.mono b5.size), (K4.out.2.1.keep hb5).keep aY, (K4.out.2.2.1.1.keep hb5).keep aY, (K4.out.2.2.1.2.keep hb5).keep aY, (K4.out.2.2.2.1.keep hb5).keep aY, tY⟩
  have Q5 : Hid (QMine Y bx l ∧ BMine Y dx bl0 ∧ BOwn Y U.heap.size (.slice a2 n2 k2) L) := ⟨(K4.out.2.2.2.2.1.keep hb5).keep aY, (K4.out.2.2.2.2.2.keep hb5).keep aY, ho5.keep aY⟩
  have O5 : Hid ((∀ b, (Value.slice a2 n2 k2).ownBlock = some b → U.heap.size ≤ b ∧ b < w5.heap.size) ∧ bl < U.heap.size ∧ U.heap.size ≤ w5.heap.size ∧ n2 = L.length) := ⟨fun b hb => ho5.block b hb, hUs, hb5.size, by obtain ⟨x, y, e, _⟩ := ho5.shape; simp only [Value.slice.injEq] at e; exact e.2.1⟩
  clear K4 C4 hb5 ho5 hY aY tY b5 hUs
  generalize U.heap.size = b2 at *
  try clear U
  try clear V
  try clear w4
  try clear w3
  try clear w2
  try clear w1
  have C5 := eqBytesResult_own Y c a2 a1 n2 n1 k2 k1 b2 b1 L hLL Q5.out.2.2 K5.out.o1
  obtain ⟨p0, p1, _, _⟩ := K5.out.r1
  rw [HY.out] at p0 p1
  go_wp2_with fail
  rw [← HY.out]
  refine C5.mono ?_
  rintro e w6 ⟨rfl, hb6⟩
  clear p0 p1 HY C5
  generalize w5.heap.size = X2 at *
  have KX : Hid (∀ X, Below w6.heap.size w6 X → PP w s a n cap l b bn bc c L X1 b1 (.slice a1 n1 k1) bx dx bl X2 b2 (.slice a2 n2 k2) X ∧ QMine X bx l ∧ BMine X dx bl0 ∧ BOwn X b2 (.slice a2 n2 k2) L) := fun X hb => ⟨(K5.out.keep hb6).keep hb, (Q5.out.1.keep hb6).keep hb, (Q5.out.2.1.keep hb6).keep hb, (Q5.out.2.2.keep hb6).keep hb⟩
  clear K5 Q5 hb6
  try clear Y
  try clear w5
  go_wp2_with fail
  have B0 : Hid (Below w6.heap.size w6 w6.drew) := (Below.refl _ _).drew
  have HKS : Hid (∀ X, Below w6.heap.size w6 X → (X.cell? ⟨w.heap.size, 0, none⟩ = some (.int .i64 s) ∧ X.cell? ⟨w.heap.size, 1, none⟩ = some (.slice a n cap) ∧ X.cell? ⟨w.heap.size, 2, none⟩ = some (.slice b bn bc)) ∧ X.cell? ⟨bl, 0, none⟩ = some (.int .i64 s) ∧ X.cell? ⟨bl, 1, none⟩ = some (.slice (some ⟨bx, 0, none⟩) n n) ∧ X.cell? ⟨bl, 2, none⟩ = some (.slice (some ⟨dx, 0, none⟩) bn bn)) := fun X hb => ⟨⟨(KX.out X hb).1.fa.c0, (KX.out X hb).1.fa.c1, (KX.out X hb).1.fa.c2⟩, (KX.out X hb).1.fx.c0, (KX.out X hb).1.fx.c1, (KX.out X hb).1.fx.c2⟩
  go_cut [31] from 27 to 31 (fun s31 wx => s31 = .bool false ∧ Below w6.heap.size w6 wx)
  case first =>
    go_region_held3 (fun X => (X.cell? ⟨w.heap.size, 0, none⟩ = some (.int .i64 s) ∧ X.cell? ⟨w.heap.size, 1, none⟩ = some (.slice a n cap) ∧ X.cell? ⟨w.heap.size, 2, none⟩ = some (.slice b bn bc)) ∧ X.cell? ⟨bl, 0, none⟩ = some (.int .i64 s) ∧ X.cell? ⟨bl, 1, none⟩ = some (.slice (some ⟨bx, 0, none⟩) n n) ∧ X.cell? ⟨bl, 2, none⟩ = some (.slice (some ⟨dx, 0, none⟩) bn bn))
      (first | exact HKS.out _ BB.out | exact HKS.out _ BA.out | exact HKS.out _ B0.out)
      (first
      | (go_at_call 56; refine (HT.out _ (KX.out _ B0.out).1.bb).mono ?_; rintro e wa ⟨⟨da, rfl, hma, hda, _⟩, hba⟩; have MA : Hid (QMine wa _ l ∧ BMine wa da bl0) := ⟨hma, hda⟩; have BA : Hid (Below w6.heap.size w6 wa) := B0.out.trans (hba.mono B0.out.size); clear hba hma hda)
      | (go_at_call 57; refine (HQ.out _ _ _ _ _ (KX.out _ BA.out).2.1 MA.out.1 (KX.out _ BA.out).2.2.1 MA.out.2).mono ?_; rintro e wb ⟨rfl, hbb⟩; have BB : Hid (Below w6.heap.size w6 wb) := BA.out.trans (hbb.mono BA.out.size); clear hbb))
    all_goals (go_wp2_with fail; go_meet; exact ⟨rfl, BB.out⟩)
  case rest =>
  obtain ⟨rfl, hbx⟩ := hcut
  have K7 : Hid (PP w s a n cap l b bn bc c L X1 b1 (.slice a1 n1 k1) bx dx bl X2 b2 (.slice a2 n2 k2) wc ∧ QMine wc bx l ∧ BMine wc dx bl0 ∧ BOwn wc b2 (.slice a2 n2 k2) L) := KX.out wc hbx
  clear hbx HKS B0 HQ KX
  generalize wc = w7 at *
  try clear w6
  obtain ⟨qx, hqx, C7⟩ := HMK.out w7 bx dx K7.out.2.1 K7.out.2.2.1 (by have := O4.out; omega) (by have := O4.out; omega) (by have := O4.out; omega) K7.out.1.bb.size
  obtain ⟨q0, q1, q2, _, _⟩ := K7.out.1.fx
  clear HMK
  go_wp2_with fail
  refine C7.mono ?_
  rintro e w8 ⟨rfl, wm, hov, hov2, hb8, hb8b⟩
  have K8 : Hid (PP w s a n cap l b bn bc c L X1 b1 (.slice a1 n1 k1) bx dx bl X2 b2 (.slice a2 n2 k2) w8 ∧ BOwn w8 b2 (.slice a2 n2 k2) L) := by
    have o4 := O4.out
    have o5 := O5.out
    have k1 : PP w s a n cap l b bn bc c L X1 b1 (.slice a1 n1 k1) bx dx bl X2 b2 (.slice a2 n2 k2) wm := by
      refine K7.out.1.out hov hb8 (fun e => ?_) (fun e => ?_) (fun b hb e => ?_) (fun e => ?_) (fun e => ?_)
      · simp only [Value.ownBlock, Option.some.injEq] at e; omega
      · simp only [Value.ownBlock, Option.some.injEq] at e; omega
      · simp only [Value.ownBlock, Option.some.injEq] at e; have := o4.1 b hb; omega
      · simp only [Value.ownBlock, Option.some.injEq] at e; omega
      · simp only [Value.ownBlock, Option.some.injEq] at e; omega
    have k2' : BOwn wm b2 (.slice a2 n2 k2) L := K7.out.2.2.2.out hov fun b hb e => by simp only [Value.ownBlock, Option.some.injEq] at e; have := o5.1 b hb; omega
    refine ⟨k1.out hov2 hb8b (fun e => ?_) (fun e => ?_) (fun b hb e => ?_) (fun e => ?_) (fun e => ?_), k2'.out hov2 fun b hb e => ?_⟩
    · simp only [Value.ownBlock, Option.some.injEq] at e; omega
    · simp only [Value.ownBlock, Option.some.injEq] at e; omega
    · simp only [Value.ownBlock, Option.some.injEq] at e; have := o4.1 b hb; omega
    · simp only [Value.ownBlock, Option.some.injEq] at e; omega
    · simp only [Value.ownBlock, Option.some.injEq] at e; omega
    · simp only [Value.ownBlock, Option.some.injEq] at e; have := o5.1 b hb; omega
  clear hov hov2 hb8 hb8b C7 K7 q0 q1 q2
  try clear w7
  have hqd : decide (qx < 0) = false := by simpa using hqx
  have C8 := eqBytesResult_own w8 c a2 a1 n2 n1 k2 k1 b2 b1 L hLL K8.out.2 K8.out.1.o1
  obtain ⟨p0, p1, _, _⟩ := K8.out.1.r1
  obtain ⟨s0, s1, _, _⟩ := K8.out.1.r2
  go_wp2_with fail
  refine C8.mono ?_
  rintro e w9 ⟨rfl, hb9⟩
  have K9 : Hid (PP w s a n cap l b bn bc c L X1 b1 (.slice a1 n1 k1) bx dx bl X2 b2 (.slice a2 n2 k2) w9 ∧ BOwn w9 b2 (.slice a2 n2 k2) L) := ⟨K8.out.1.keep hb9, K8.out.2.keep hb9⟩
  clear K8 C8 hb9 p0 p1 s0 s1 hqd
  try clear w8
  have C9 := markBytesResult_own w9 c a2 n2 k2 b2 w.heap.size L hLL K9.out.2 (by have := O4.out; have := O5.out; omega) K9.out.1.bb.size
  obtain ⟨s0, s1, _, _⟩ := K9.out.1.r2
  go_wp2_with fail
  refine C9.mono ?_
  rintro e w10 ⟨rfl, hmk, hoc, hos, hb10⟩
  have K10 : Hid (PP w s a n cap l b bn bc c L X1 b1 (.slice a1 n1 k1) bx dx bl X2 b2 (.slice a2 n2 k2) w10 ∧ MarkB w10 (.slice a2 n2 k2) 1 n2) := by
    have o4 := O4.out
    have o5 := O5.out
    refine ⟨K9.out.1.out (v := .slice a2 n2 k2) ⟨hos, fun b o h1 h2 => (hoc b o h1 h2).1, fun b o h1 h2 => (hoc b o h1 h2).2⟩ hb10 (fun e => ?_) (fun e => ?_) (fun b hb e => ?_) (fun e => ?_) (fun e => ?_), hmk⟩
    · have := o5.1 _ e; omega
    · have := o5.1 _ e; omega
    · have := o5.1 _ e; have := o4.1 b hb; omega
    · have := o5.1 _ e; omega
    · have := o5.1 _ e; omega
  clear hmk hoc hos hb10 C9 K9 s0 s1
  try clear w9
  have hn2 : n2 ≤ 1048576 := by rw [O5.out.2.2.2]; exact hLL
  have HHD : Hid (∀ X, MarkB X (.slice a2 n2 k2) 1 n2 → Calls Tryz.prog 42 #[.agg #[.int .i64 c, .slice a2 n2 k2], .int .i64 1] X fun e w' => e = .returned (.int .i64 ((1 + n2 : Nat) : Int)) ∧ Below X.heap.size X w') := fun X hm => heldBytesResult_own X c a2 n2 k2 hn2 hm
  have hq0 : ¬ ((1 + n2 : Nat) : Int) < 0 := by omega
  generalize ((1 + n2 : Nat) : Int) = q at *
  have C10 := HHD.out w10 K10.out.2
  obtain ⟨s0, s1, _, _⟩ := K10.out.1.r2
  go_wp2_with fail
  refine C10.mono ?_
  rintro e w11 ⟨rfl, hb11⟩
  have K11 : Hid (PP w s a n cap l b bn bc c L X1 b1 (.slice a1 n1 k1) bx dx bl X2 b2 (.slice a2 n2 k2) w11 ∧ MarkB w11 (.slice a2 n2 k2) 1 n2) := ⟨K10.out.1.keep hb11, K10.out.2.keep hb11⟩
  clear K10 C10 hb11 s0 s1
  try clear w10
  have C11 := HT.out w11 K11.out.1.bb
  obtain ⟨q0, q1, q2, _, _⟩ := K11.out.1.fa
  go_wp2_with fail
  refine C11.mono ?_
  rintro e w12 ⟨⟨d12, rfl, hm12, hd12, _⟩, hb12⟩
  have K12 : Hid (PP w s a n cap l b bn bc c L X1 b1 (.slice a1 n1 k1) bx dx bl X2 b2 (.slice a2 n2 k2) w12 ∧ MarkB w12 (.slice a2 n2 k2) 1 n2) := ⟨K11.out.1.keep hb12, K11.out.2.keep hb12⟩
  have C12 := HG.out w12 _ d12 K12.out.1.bb hm12 hd12
  clear K11 C11 hb12 hm12 hd12 q0 q1 q2 HT HG
  go_wp2_with fail
  refine C12.mono ?_
  rintro e w13 ⟨⟨a3, n3, k3, rfl, ho13⟩, hb13⟩
  obtain ⟨Z, hZ⟩ : ∃ Z, Z = w13.alloc (.cells #[.int .i64 c, .slice a3 n3 k3] 29) := ⟨_, rfl⟩
  have HZ : Hid (Z = w13.alloc (.cells #[.int .i64 c, .slice a3 n3 k3] 29)) := hZ
  have aZ : Below w13.heap.size w13 Z := by rw [hZ]; exact (Below.refl _ _).alloc (Nat.le_refl _) _
  have K13 : Hid (PP w s a n cap l b bn bc c L X1 b1 (.slice a1 n1 k1) bx dx bl X2 b2 (.slice a2 n2 k2) Z ∧ MarkB Z (.slice a2 n2 k2) 1 n2) := ⟨(K12.out.1.keep hb13).keep aZ, (K12.out.2.keep hb13).keep aZ⟩
  have C13 := eqBytesResult_own Z c a3 a1 n3 n1 k3 k1 _ b1 L hLL (ho13.keep aZ) K13.out.1.o1
  obtain ⟨p0, p1, _, _⟩ := K13.out.1.r1
  rw [HZ.out] at p0 p1
  clear K12 C12 hb13 ho13 hZ aZ
  go_wp2_with fail
  rw [← HZ.out]
  refine C13.mono ?_
  rintro e w14 ⟨rfl, hb14⟩
  have K14 : Hid (PP w s a n cap l b bn bc c L X1 b1 (.slice a1 n1 k1) bx dx bl X2 b2 (.slice a2 n2 k2) w14 ∧ MarkB w14 (.slice a2 n2 k2) 1 n2) := ⟨K13.out.1.keep hb14, K13.out.2.keep hb14⟩
  clear K13 C13 hb14 p0 p1 HZ
  try clear Z
  have C14 := HHD.out w14 K14.out.2
  obtain ⟨s0, s1, _, _⟩ := K14.out.1.r2
  go_wp2_with fail
  refine C14.mono ?_
  rintro e w15 ⟨rfl, hb15⟩
  have KF : Hid (Below w.heap.size w w15) := K14.out.1.bb.trans (hb15.mono K14.out.1.bb.size)
  clear K14 C14 hb15 s0 s1 HHD
  go_wp2_with fail
  go_ret
  exact ⟨rfl, KF.out⟩
end Go.Proofs.YtojcjpdgjohldaaGreatDoor
/-
  Head lines that came in, opened.
-/
namespace Go.Proofs.YtojcjpdgjohldaaGreatDoor
open Go.ChangeShapes Go.WideShapes Go.ChangeAt Go.RowKit Go.Deep
theorem headerCells : Tryz.prog.cellsOf 168 = 2 := by kernel_rfl
theorem hOneS : Tryz.prog.cellsOf 9 = 1 := by kernel_rfl
theorem hdr_of {H : Type} {enc : TypeId × Value → H} {w : World} {base : Nat} {spare : Nat → Bool} {held : Bool} {fuel : Nat} {cs : List Value} {x : DataW H × List MemPlace}
    (h : DataW.trod enc Tryz.prog w base spare held fuel 168 cs = some x) : ∃ r : Hdr, cs = [.string r.name, .string r.value] ∧ r.name.size ≤ maxLen ∧ r.value.size ≤ maxLen := by
  obtain ⟨y0, y1, n, _, hl, h0, h2⟩ := trod_struct2 Tryz.underlying168 h
  rw [headerCells] at hl
  simp only [hOneS] at h0 h2
  obtain ⟨s0, e0, _, z0⟩ := DataW.trod_string Tryz.underlying9 h0
  obtain ⟨s2, e2, _, z2⟩ := DataW.trod_string Tryz.underlying9 h2
  match cs, hl with
  | [c0, c2], _ =>
    simp only [List.drop_zero, List.take_succ_cons, List.take_zero, List.drop_succ_cons, List.cons.injEq, and_true] at e0 e2
    exact ⟨⟨s0, s2⟩, by rw [e0, e2], z0, z2⟩
theorem open_headers {H : Type} {enc : TypeId × Value → H} {w : World} {base : Nat} {spare : Nat → Bool} {held : Bool} {fuel : Nat} {a : Option Addr} {len cap : Nat} {x : DataW H × List MemPlace}
    (h : DataW.trod enc Tryz.prog w base spare held fuel 54 [.slice a len cap] = some x) :
    ∃ l : List Hdr, l.length = len ∧ len ≤ maxLen ∧ SmallHdrs l ∧ (l = [] ∨ ∃ b off, a = some ⟨b, off, none⟩ ∧ HeadsAt w b off l) := by
  rcases open_slice Tryz.underlying54 h with ⟨hcs, _⟩ | ⟨A, len', cap', m, n, D, Pl, hcs, _, hl, hm, hmm, _, hel⟩
  · simp only [List.cons.injEq, Value.slice.injEq, and_true] at hcs
    obtain ⟨_, rfl, _⟩ := hcs
    exact ⟨[], rfl, by unfold maxLen; omega, fun i r hr => by simp at hr, .inl rfl⟩
  · simp only [List.cons.injEq, Value.slice.injEq, and_true] at hcs
    obtain ⟨rfl, rfl, rfl⟩ := hcs
    have hlm : len ≤ m := by rw [hmm]; split <;> omega
    have hrec : ∀ i, i < len → ∃ r : Hdr, w.cells? base (A.add (i * 2)) 2 = some [.string r.name, .string r.value] ∧ r.name.size ≤ maxLen ∧ r.value.size ≤ maxLen := by
      intro i hi
      obtain ⟨cs', hc, ht⟩ := hel i (by omega)
      rw [headerCells] at hc
      obtain ⟨r, rfl, z⟩ := hdr_of ht
      exact ⟨r, hc, z⟩
    obtain ⟨f, hf⟩ : ∃ f : Nat → Hdr, ∀ i, i < len → w.cells? base (A.add (i * 2)) 2 = some [.string (f i).name, .string (f i).value] ∧ (f i).name.size ≤ maxLen ∧ (f i).value.size ≤ maxLen := by
      classical
      refine ⟨fun i => if hi : i < len then (hrec i hi).choose else ⟨.empty, .empty⟩, fun i hi => ?_⟩
      simp only [dif_pos hi]
      exact (hrec i hi).choose_spec
    refine ⟨(List.range len).map f, by simp, by omega, ?_, ?_⟩
    · intro i r hr
      rw [List.getElem?_map] at hr
      obtain ⟨j, hj, rfl⟩ := Option.map_eq_some_iff.1 hr
      obtain ⟨hlt, rfl⟩ := List.getElem?_eq_some_iff.1 hj
      simp at hlt
      simpa using (hf i hlt).2
    · by_cases h0 : len = 0
      · subst h0; exact .inl rfl
      · obtain ⟨b, off, spot⟩ := A
        have cells : ∀ i, i < len → ∀ j, j < 2 → w.cell? ((⟨b, off, spot⟩ : Addr).add (i * 2 + j)) = ([.string (f i).name, .string (f i).value] : List Value)[j]? := by
          intro i hi j hj
          have c := (World.cells?_some (hf i hi).1).2.2 j hj
          rw [add_add] at c
          exact c
        have hs : spot = none := by
          have c := cells 0 (by omega) 0 (by omega)
          simp only [Nat.zero_mul, Nat.add_zero, List.getElem?_cons_zero] at c
          simpa [Addr.add] using World.cell?_spot c
        subst hs
        have hadd : ∀ i, (⟨b, off, none⟩ : Addr).add i = ⟨b, off + i, none⟩ := fun i => by unfold Addr.add; split <;> simp_all
        refine .inr ⟨b, off, rfl, fun i r hr => ?_⟩
        rw [List.getElem?_map] at hr
        obtain ⟨j, hj, rfl⟩ := Option.map_eq_some_iff.1 hr
        obtain ⟨hlt, rfl⟩ := List.getElem?_eq_some_iff.1 hj
        simp only [List.length_range] at hlt
        simp only [List.getElem_range]
        have q0 := cells i hlt 0 (by omega)
        have q1 := cells i hlt 1 (by omega)
        rw [hadd] at q0 q1
        exact ⟨by simpa using q0, by simpa [Nat.add_assoc] using q1⟩
end Go.Proofs.YtojcjpdgjohldaaGreatDoor
/-
  A request and a response that came in by value, opened.
-/
namespace Go.Proofs.YtojcjpdgjohldaaGreatDoor
open Go.ChangeShapes Go.WideShapes Go.ChangeAt Go.RowKit Go.Deep
theorem requestCells : Tryz.prog.cellsOf 56 = 4 := by kernel_rfl
theorem headsOne : Tryz.prog.cellsOf 54 = 1 := by kernel_rfl
theorem slice_cs {H : Type} {enc : TypeId × Value → H} {w : World} {base : Nat} {spare : Nat → Bool} {held : Bool} {fuel : Nat} {cs : List Value} {t e : TypeId} {x : DataW H × List MemPlace}
    (hu : Tryz.prog.underlying t = some (.slice e)) (h : DataW.trod enc Tryz.prog w base spare held fuel t cs = some x) : ∃ a len cap, cs = [.slice a len cap] := by
  rcases open_slice hu h with ⟨hcs, _⟩ | ⟨A, len', cap', m, n, D, Pl, hcs, _⟩
  · exact ⟨_, _, _, hcs⟩
  · exact ⟨_, _, _, hcs⟩
set_option maxRecDepth 100000 in
theorem open_request {H : Type} {enc : TypeId × Value → H} {w : World} {r : Reach} {b0 base : Nat} {spare : Nat → Bool} {held : Bool} {v : Value} {d : DataW H} {p : List MemPlace}
    (hv : Value.okWide Tryz.prog w r b0 56 v) (h : DataW.Trod enc Tryz.prog w base spare held 56 v d p) :
    ∃ (m h p : ByteArray) (a : Option Addr) (cap : Nat) (l : List Hdr), v = .agg #[.string m, .string h, .string p, .slice a l.length cap] ∧ m.size ≤ maxLen ∧ h.size ≤ maxLen ∧ p.size ≤ maxLen ∧ l.length ≤ maxLen ∧ SmallHdrs l ∧ (l = [] ∨ ∃ b off, a = some ⟨b, off, none⟩ ∧ HeadsAt w b off l) := by
  obtain ⟨cs, rfl, hsz⟩ := okWide_struct Tryz.underlying56 hv
  obtain ⟨fuel, hf0⟩ := h
  obtain ⟨xs, n, _, _, hl, hlen, hf⟩ := DataW.trod_struct Tryz.underlying56 hf0
  match xs, hlen with
  | [y0, y1, y2, y3], _ =>
    have h0 : DataW.trod enc Tryz.prog w base spare held n 9 (((Value.agg cs).cells.toList.drop 0).take (Tryz.prog.cellsOf 9)) = some y0 := hf 0 _ rfl
    have h1 : DataW.trod enc Tryz.prog w base spare held n 9 (((Value.agg cs).cells.toList.drop 1).take (Tryz.prog.cellsOf 9)) = some y1 := hf 1 _ rfl
    have h2 : DataW.trod enc Tryz.prog w base spare held n 9 (((Value.agg cs).cells.toList.drop 2).take (Tryz.prog.cellsOf 9)) = some y2 := hf 2 _ rfl
    have h3 : DataW.trod enc Tryz.prog w base spare held n 54 (((Value.agg cs).cells.toList.drop 3).take (Tryz.prog.cellsOf 54)) = some y3 := hf 3 _ rfl
    rw [hOneS] at h0 h1 h2
    rw [headsOne] at h3
    obtain ⟨s0, e0, _, z0⟩ := DataW.trod_string Tryz.underlying9 h0
    obtain ⟨s1, e1, _, z1⟩ := DataW.trod_string Tryz.underlying9 h1
    obtain ⟨s2, e2, _, z2⟩ := DataW.trod_string Tryz.underlying9 h2
    obtain ⟨a, len, cap, e3⟩ := slice_cs Tryz.underlying54 h3
    rw [e3] at h3
    obtain ⟨l, rfl, m3, s3, o3⟩ := open_headers h3
    refine ⟨s0, s1, s2, a, cap, l, ?_, z0, z1, z2, m3, s3, o3⟩
    have e : cs.toList = [.string s0, .string s1, .string s2, .slice a l.length cap] := by
      simp only [Value.cells] at e0 e1 e2 e3 hl
      rw [requestCells] at hl
      match hc : cs.toList, hl with
      | [c0, c1, c2, c3], _ =>
        rw [hc] at e0 e1 e2 e3
        simp only [List.drop_zero, List.take_succ_cons, List.take_zero, List.drop_succ_cons, List.cons.injEq, and_true] at e0 e1 e2 e3
        rw [e0, e1, e2, e3]
    congr 1
    exact Array.toList_inj.1 e
end Go.Proofs.YtojcjpdgjohldaaGreatDoor
