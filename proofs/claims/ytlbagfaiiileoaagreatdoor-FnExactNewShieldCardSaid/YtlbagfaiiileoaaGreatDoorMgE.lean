/-
  Texts of one claim, one behind the other.
-/
import Derived.BigQuiet
import Derived.ChangeArms
import Derived.Deep.AppendLies
import Derived.Deep.RegionHeld3
import Derived.Deep.RegionWith
import Derived.JoinedCond
import Derived.Lib.QuietBelow
import Derived.MakeChecks
import Derived.ProofKit
import Derived.StillTail
import Derived.Test.YtlbagfaiiileoaaGreatDoorRows
import Derived.Test.YtlbagfaiiileoaaGreatDoorMgD
/-
  What an entry costs, by the program.
-/
namespace Go.Proofs.YtlbagfaiiileoaaGreatDoor
open Go.ChangeShapes Go.WideShapes Go.ChangeAt Go.RowKit Go.Sort
theorem cfield_text (c : Int) (t : ByteArray) (w : World) : (Instr.field 224 (.agg #[.int .i64 c, .string t]) 1).run Tryz.prog w = .ok (.string t) w := by kernel_rfl
set_option maxRecDepth 100000 in
set_option maxHeartbeats 4000000 in
theorem costOne_at (w : World) (b off : Nat) (key : ByteArray) (ha : Option Addr) (hc : Nat) (hs : List Hdr) (ba : Option Addr) (bn bc : Nat) (hset : SetIs w)
    (h0 : w.cell? ⟨b, off, none⟩ = some (.string key)) (h2 : w.cell? ⟨b, off + 2, none⟩ = some (.slice ha hs.length hc)) (h3 : w.cell? ⟨b, off + 3, none⟩ = some (.slice ba bn bc))
    (hk : key.size ≤ 500) (hb : bn ≤ 2000) (hh : headsC hs = 0) (hH : HdsIn w ha hs) :
    Calls Tryz.prog 112 #[.pointer (some ⟨b, off, none⟩)] w fun r w' => r = .returned (.int .i64 (costN key hs bn)) ∧ Below w.heap.size w w' := by
  obtain ⟨h20, hfl⟩ := headsC_zero hh
  have hlen := packL_len4 hs (fun r hr => by obtain ⟨i, hi⟩ := List.mem_iff_getElem?.1 hr; exact hfl i r hi)
  have HC : Hid (∀ X, Below w.heap.size w X → Calls Tryz.prog 175 #[.slice ha hs.length hc] X fun e w' => e = .returned (.agg #[.int .i64 0, .string ⟨(packL hs).toArray⟩]) ∧ Below X.heap.size X w') := fun X hX => by
    have := implPack_any X ha hc hs (by omega) (hset.below hX) (hH.keep hX)
    rw [hh, show packT hs = ⟨(packL hs).toArray⟩ from by unfold packT; rw [if_pos hh]] at this
    exact this
  have hsz : ((⟨(packL hs).toArray⟩ : ByteArray).size : Int) = ((packL hs).length : Int) := by simp [ByteArray.size]
  unfold costN
  have hlt : b < w.heap.size := block_lt_of_cell h0
  have HKS : Hid (∀ X, Below w.heap.size w X → X.cell? ⟨b, off, none⟩ = some (.string key) ∧ X.cell? ⟨b, off + 2, none⟩ = some (.slice ha hs.length hc) ∧ X.cell? ⟨b, off + 3, none⟩ = some (.slice ba bn bc)) := fun X hX => ⟨by rw [hX.cell (p := ⟨b, off, none⟩) hlt]; exact h0, by rw [hX.cell (p := ⟨b, off + 2, none⟩) hlt]; exact h2, by rw [hX.cell (p := ⟨b, off + 3, none⟩) hlt]; exact h3⟩
  generalize hP : (⟨(packL hs).toArray⟩ : ByteArray) = pk at *
  rw [← hsz]
  have hpk : pk.size ≤ 5360 := by omega
  clear hH hfl hlen hsz hh hP h20 h2 h3 hset
  generalize hs.length = hl at *
  have hfd := cfield_text
  have e1 : IntKind.i64.wrap (50 + (key.size : Int)) = 50 + (key.size : Int) := by
    unfold IntKind.wrap; simp [IntKind.signed, IntKind.bits]; omega
  have e2 : IntKind.i64.wrap (50 + (key.size : Int) + (pk.size : Int)) = 50 + (key.size : Int) + (pk.size : Int) := by
    unfold IntKind.wrap; simp [IntKind.signed, IntKind.bits]; omega
  have e3 : IntKind.i64.wrap (50 + (key.size : Int) + (pk.size : Int) + (bn : Int)) = 50 + (key.size : Int) + (pk.size : Int) + (bn : Int) := by
    unfold IntKind.wrap; simp [IntKind.signed, IntKind.bits]; omega
  have B0 : Hid (Below w.heap.size w w.drew) := (Below.refl _ _).drew
  go_enter Tryz.func112, Tryz.ntmps112
  go_wp2_with fail
  go_region_held3 (fun X => X.cell? ⟨b, off, none⟩ = some (.string key) ∧ X.cell? ⟨b, off + 2, none⟩ = some (.slice ha hl hc) ∧ X.cell? ⟨b, off + 3, none⟩ = some (.slice ba bn bc))
    (first | exact HKS.out _ BA.out | exact HKS.out _ B0.out)
    (first | (go_at_call 175; refine (HC.out _ B0.out).mono ?_; rintro e0 wa ⟨rfl, hba⟩; have BA : Hid (Below w.heap.size w wa) := B0.out.trans (hba.mono B0.out.size); clear hba))
  all_goals
    go_wp2_with fail
    go_ret
    exact ⟨ret_int (by omega), BA.out⟩
end Go.Proofs.YtlbagfaiiileoaaGreatDoor
/-
  What the entries of a shelf cost together, by the program.
-/
namespace Go.Proofs.YtlbagfaiiileoaaGreatDoor
open Go.ChangeShapes Go.WideShapes Go.ChangeAt Go.RowKit Go.Sort
theorem costOne_h (w : World) (h : Hdl) (hset : SetIs w) (ht : HThere w h) (h0 : entC h.x = 0) :
    Calls Tryz.prog 112 #[.pointer (some ⟨h.b, h.o, none⟩)] w fun r w' => r = .returned (.int .i64 (entN h.x)) ∧ Below w.heap.size w w' := by
  obtain ⟨z1, _, _, z4, z5, _, _⟩ := entryC_zero h0
  have c := ht.cells
  exact costOne_at w h.b h.o h.x.key h.r.ha h.r.hc h.x.hs h.r.ba h.x.bl.length h.r.bc hset c.1 c.2.2.1 c.2.2.2.1 z1.2 z5 z4 ht.2.h
set_option maxRecDepth 100000 in
set_option maxHeartbeats 8000000 in
theorem shSum_any (w : World) (v : Value) (base : Nat) (l : List Hdl) (ho : OwnP w base v l) (hset : SetIs w) (hl : l.length ≤ 41) (hth : ∀ h ∈ l, HThere w h) (hz : ∀ h ∈ l, entC h.x = 0) :
    Calls Tryz.prog 111 #[.agg #[v], .func (.func 112) #[] #[]] w fun e w' => e = .returned (.int .i64 (costsE (l.map Hdl.x))) ∧ Below w.heap.size w w' := by
  obtain ⟨va, vc, rfl, _, hf⟩ := ho.form
  have HC : Hid (∀ (k : Nat) h, l[k]? = some h → ∃ g, va = some ⟨g, 0, none⟩ ∧ g < w.heap.size ∧ w.cell? ⟨g, k, none⟩ = some (.pointer (some ⟨h.b, h.o, none⟩))) := fun k h hk => by
    rcases hf with rfl | ⟨g, e, _, hg, hc⟩
    · simp at hk
    · exact ⟨g, e, hg, hc k h hk⟩
  have HT : Hid (∀ X, Below w.heap.size w X → ∀ h ∈ l, Calls Tryz.prog 112 #[.pointer (some ⟨h.b, h.o, none⟩)] X fun r w' => r = .returned (.int .i64 (entN h.x)) ∧ Below X.heap.size X w') := fun X hX h hh => costOne_h X h (hset.below hX) ((hth h hh).keep hX) (hz h hh)
  have HZ : Hid (∀ h ∈ l, entC h.x = 0) := hz
  clear hf ho hth hz hset
  obtain ⟨S, hS⟩ : ∃ S, Hid (costsE (l.map Hdl.x) = S) := ⟨_, rfl⟩
  rw [hS.out]
  generalize hn : l.length = n at *
  have HN : Hid (l.length = n) := hn
  clear hn
  have B0 : Hid (Below w.heap.size w (w.alloc (.cells #[.slice va n vc] 182))) := (Below.refl _ _).alloc (Nat.le_refl _) _
  go_enter Tryz.func111, Tryz.ntmps111
  go_wp2_with fail
  go_loopw [5, 11] (fun x i wr => ∃ (k : Nat) (c : Int), k ≤ n ∧ i = .int .i64 k ∧ x = .int .i64 c ∧ 0 ≤ c ∧ c ≤ 8000 * k ∧ S = c + costsE ((l.map Hdl.x).drop k) ∧ Below w.heap.size w wr) (fun _ i _ => n - (intOf i).toNat)
  case atStart => exact ⟨0, 0, Nat.zero_le _, rfl, rfl, by omega, by omega, by rw [← hS.out]; simp, B0.out⟩
  case round =>
    obtain ⟨k, c, hk, rfl, rfl, c2, c3, hs, hb⟩ := hrel
    have HS : Hid (S = c + costsE ((l.map Hdl.x).drop k)) := hs
    clear hs hS B0
    by_cases hlt : k < n
    · obtain ⟨q, hr⟩ : ∃ r, l[k]? = some r := ⟨l[k]'(by have := HN.out; omega), List.getElem?_eq_getElem _⟩
      obtain ⟨g', rfl, hg, hc⟩ := HC.out k q hr
      have p1 : wr.cell? ⟨g', k, none⟩ = some (.pointer (some ⟨q.b, q.o, none⟩)) := by rw [hb.cell (p := ⟨g', k, none⟩) hg]; exact hc
      have hle := entN_le (HZ.out q (List.mem_of_getElem? hr))
      have HS2 : Hid (S = c + entN q.x + costsE ((l.map Hdl.x).drop (k + 1))) := by
        show _ = _
        obtain ⟨hk2, hr2⟩ := List.getElem?_eq_some_iff.1 hr
        rw [HS.out, List.drop_eq_getElem_cons (i := k) (by simpa using hk2), costsE]
        simp [hr2]
        omega
      have C : Hid (Calls Tryz.prog 112 #[.pointer (some ⟨q.b, q.o, none⟩)] wr fun r w' => r = .returned (.int .i64 (entN q.x)) ∧ Below wr.heap.size wr w') := HT.out wr hb q (List.mem_of_getElem? hr)
      have g : (k : Int) < n := by omega
      have g0 : (0 : Int) ≤ k := by omega
      have HB : Hid (Below w.heap.size w wr) := hb
      clear HS hr hc hb HC HT HZ hg
      generalize entN q.x = en at *
      have e1 : IntKind.i64.wrap (c + en) = c + en := by
        unfold IntKind.wrap; simp [IntKind.signed, IntKind.bits]; omega
      go_wp2_with fail
      refine C.out.mono ?_
      rintro r w2 ⟨rfl, hb2⟩
      have HB2 : Hid (Below w.heap.size w w2) := HB.out.trans (hb2.mono HB.out.size)
      clear hb2 C HB p1
      go_wp2_with fail
      go_roundw
      case rel => exact ⟨k + 1, c + en, by omega, by go_num, by first | rfl | rw [e1], by omega, by omega, HS2.out, HB2.out⟩
      case measure => simp [intOf]; omega
    · have HF : Hid (S = c) := by
        show _ = _
        rw [HS.out, List.drop_of_length_le (by have := HN.out; simp; omega), costsE]
        omega
      clear HS
      go_wp2_with fail
      go_ret
      exact ⟨ret_int HF.out.symm, hb⟩
set_option maxRecDepth 100000 in
set_option maxHeartbeats 8000000 in
theorem shCost_any (w : World) (v1 v2 : Value) (base : Nat) (l1 l2 : List Hdl) (h : TwoP w base v1 v2 l1 l2) (hset : SetIs w) (hl : l1.length + l2.length ≤ 41) (hth : ∀ h ∈ l1 ++ l2, HThere w h) (hz : ∀ h ∈ l1 ++ l2, entC h.x = 0) :
    Calls Tryz.prog 110 #[.agg #[v1, v2]] w fun e w' => e = .returned (.int .i64 (costsE ((l1 ++ l2).map Hdl.x))) ∧ Below w.heap.size w w' := by
  obtain ⟨a1, k1, e1, _⟩ := h.a.form
  obtain ⟨a2, k2, e2, _⟩ := h.b.form
  obtain ⟨W, hW⟩ : ∃ W, W = w.alloc (.cells #[v1, v2] 184) := ⟨_, rfl⟩
  have HW : Hid (W = w.alloc (.cells #[v1, v2] 184)) := hW
  have bW : Below w.heap.size w W := by rw [hW]; exact (Below.refl _ _).alloc (Nat.le_refl _) _
  have q0 := cell_regrown (show W.cell? ⟨w.heap.size, 0, none⟩ = some v1 by rw [hW]; simp)
  have q1 := cell_regrown (show W.cell? ⟨w.heap.size, 1, none⟩ = some v2 by rw [hW]; simp)
  have cA : ∀ d os, Calls Tryz.prog 111 #[.agg #[v1], .func (.func 112) #[] #[]] (grow (redrawn W d) os) fun e w'' => e = .returned (.int .i64 (costsE (l1.map Hdl.x))) ∧ ∃ p : Regrown, w'' = grow (redrawn W p.d) p.os := fun d os => by
    have b := bW.trans ((below_regrown W d os).mono bW.size)
    exact Calls.regrown_of (shSum_any _ v1 base l1 (h.a.below b) (hset.below b) (by omega) (fun x hx => (hth x (List.mem_append_left _ hx)).keep b) (fun x hx => hz x (List.mem_append_left _ hx)))
  have cB : ∀ d os, Calls Tryz.prog 111 #[.agg #[v2], .func (.func 112) #[] #[]] (grow (redrawn W d) os) fun e w'' => e = .returned (.int .i64 (costsE (l2.map Hdl.x))) ∧ ∃ p : Regrown, w'' = grow (redrawn W p.d) p.os := fun d os => by
    have b := bW.trans ((below_regrown W d os).mono bW.size)
    exact Calls.regrown_of (shSum_any _ v2 base l2 (h.b.below b) (hset.below b) (by omega) (fun x hx => (hth x (List.mem_append_right _ hx)).keep b) (fun x hx => hz x (List.mem_append_right _ hx)))
  have n1 := costsE_le (l1.map Hdl.x) (fun x hx => by obtain ⟨y, hy, rfl⟩ := List.mem_map.1 hx; exact hz y (List.mem_append_left _ hy))
  have n2 := costsE_le (l2.map Hdl.x) (fun x hx => by obtain ⟨y, hy, rfl⟩ := List.mem_map.1 hx; exact hz y (List.mem_append_right _ hy))
  rw [List.length_map] at n1 n2
  rw [List.map_append, costsE_app]
  have HB : Hid (Below w.heap.size w W) := bW
  clear hW bW h hth hz hset
  generalize costsE (l1.map Hdl.x) = s1 at *
  generalize costsE (l2.map Hdl.x) = s2 at *
  have ew : IntKind.i64.wrap (s1 + s2) = s1 + s2 := by
    unfold IntKind.wrap; simp [IntKind.signed, IntKind.bits]; omega
  subst e1
  subst e2
  go_enter Tryz.func110, Tryz.ntmps110
  go_wp2_with fail
  rw [← HW.out]
  refine wp_region_quiet_below (by kernel_rfl) (by kernel_rfl) ?_
  repeat (go_big_quiet_step (first | (go_at_call 111; with_reducible exact cA _ _) | (go_at_call 111; with_reducible exact cB _ _)))
  refine wpQuiet_nil ?_
  intro w2 hw2
  have hbb : Below w.heap.size w w2 := by
    obtain ⟨⟨d, os⟩, rfl⟩ := hw2
    exact HB.out.trans ((below_regrown W d os).mono HB.out.size)
  clear hw2 cA cB q0 q1 HW
  go_wp2_with fail
  go_ret
  exact ⟨rfl, hbb⟩
end Go.Proofs.YtlbagfaiiileoaaGreatDoor
/-
  Has a key come twice? By the program, with a map.
-/
namespace Go.Proofs.YtlbagfaiiileoaaGreatDoor
open Go.ChangeShapes Go.WideShapes Go.ChangeAt Go.RowKit Go.Maps
open Go.WideMaps (keyOf_string_mk)
/-- Block B is a map that has just the keys K. -/
def KeyMap (w : World) (B : Nat) (K : List ByteArray) : Prop :=
  ∃ D : DataW Unit, w.ownsMap Tryz.prog 9 (plainElem Tryz.prog 3) B K.length D ∧ (∀ x : ByteArray, Maps.has D (keyL x) = true ↔ x ∈ K) ∧ (K.Nodup → Maps.size D = K.length) ∧ (¬ K.Nodup → Maps.size D < K.length)
theorem KeyMap.lt {w : World} {B : Nat} {K : List ByteArray} (h : KeyMap w B K) : B < w.heap.size := by
  obtain ⟨D, h, _⟩ := h
  exact h.lt
theorem KeyMap.below {w w' : World} {B : Nat} {K : List ByteArray} (h : KeyMap w B K) (hb : Below w.heap.size w w') : KeyMap w' B K := by
  have hl := h.lt
  obtain ⟨D, ⟨es, clock, hh, r⟩, h2⟩ := h
  exact ⟨D, ⟨es, clock, by rw [hb.block B hl]; exact hh, r⟩, h2⟩
theorem KeyMap.made (w : World) : KeyMap (w.alloc (.map #[] 0)) w.heap.size [] :=
  ⟨.map [], World.ownsMap_made w _ _ _, fun x => by simp [Maps.has], fun _ => rfl, fun h => absurd List.nodup_nil h⟩
section
variable {ops : Array Oper} {rest : List Oper} {o : Oper} {a : Act} {Q : Exit → Act → World → Prop}
theorem wpList_putK (w : World) (hg : o.guard = none) (m x v : Operand) (hop : o.op = Op.mapUpdate 247 m x v) (B : Nat) (K : List ByteArray)
    (hm : a.eval m = .map (some B)) (hown : KeyMap w B K) (hn : K.length ≤ 1048576) (key : ByteArray) (hx : a.eval x = .string key) (hk : key.size ≤ maxLen) (i : Nat) (hi : i ≤ 1048576) (hv : a.eval v = .int .i64 (i : Int)) (base : Nat) (hbase : base ≤ B)
    (hK : ∀ w', KeyMap w' B (K ++ [key]) → Below base w w' → wpList Tryz.prog ops Q rest (a.put o.dst undef) w') : wpList Tryz.prog ops Q (o :: rest) a w := by
  obtain ⟨D, hD, hat, hs1, hs2⟩ := hown
  refine wpList_mapUpdate_in w hg m x v 247 hop 9 3 hkeyed Tryz.underlying247 _ B K.length D hm hD (by unfold maxLen; omega) _ _ (keyL key) hx hv (keyOf_string_mk Tryz.underlying9 hk) (.lit (.int .i64 (i : Int))) [] (plainElem_int Tryz.underlying3 (WalkArith.wf_i64 (by omega))) ?_
  intro w' hD' ht
  have hsz := size_put (k := keyL key) (hD.tidy hkeyed) (.lit (.int .i64 (i : Int)))
  have hle := hD.size_le
  have hlen : (K ++ [key]).length = K.length + 1 := by simp
  refine hK w' ⟨_, by rw [hlen]; exact hD', fun y => ?_, fun hnd => ?_, fun hnd => ?_⟩ (turned_below ht hbase)
  · rcases Classical.em (y = key) with e | e
    · subst e
      rw [has_put_same (k := keyL y) hD.isMap (isKeyL y) _]
      simp
    · rw [has_put_other (keyL_ne e), hat y]
      simp [e]
  · have h2 := List.nodup_append.1 hnd
    have hnot : ¬ key ∈ K := fun hmem => h2.2.2 key hmem key (by simp) rfl
    have hf : Maps.has D (keyL key) = false := by
      cases c : Maps.has D (keyL key)
      · rfl
      · exact absurd ((hat key).1 c) hnot
    rw [hsz, hf, hs1 h2.1, hlen]
    rfl
  · rw [hsz, hlen]
    rcases Classical.em (key ∈ K) with hmem | hmem
    · rw [(hat key).2 hmem]
      simp only [if_true]
      omega
    · have hf : Maps.has D (keyL key) = false := by
        cases c : Maps.has D (keyL key)
        · rfl
        · exact absurd ((hat key).1 c) hmem
      rw [hf]
      have hn2 : ¬ K.Nodup := fun hnk => hnd (List.nodup_append.2 ⟨hnk, by simp, fun a ha b hb => by simp only [List.mem_singleton] at hb; subst hb; exact fun e => hmem (e ▸ ha)⟩)
      have := hs2 hn2
      simp only [Bool.false_eq_true, if_false]
      omega
end
theorem keys_nodup (l : List Ent) : (l.map Ent.key).Nodup ↔ (keysE l).Nodup := by
  have e : keysE l = (l.map Ent.key).map ByteArray.toList := by simp [keysE]
  rw [e]
  have inj : ∀ a b : ByteArray, a.toList = b.toList → a = b := fun a b h => by
    rw [ByteArray.toList_eq, ByteArray.toList_eq] at h
    exact ByteArray.ext (Array.ext' h)
  constructor
  · intro h
    exact List.Pairwise.map _ (fun a b hab hc => hab (inj a b hc)) h
  · intro h
    exact List.Pairwise.of_map _ (fun a b hab hc => hab (by rw [hc])) h
set_option maxHeartbeats 1000000 in
theorem keyOf_one (w : World) (b o : Nat) (k : ByteArray) (h : w.cell? ⟨b, o, none⟩ = some (.string k)) :
    Calls Tryz.prog 109 #[.pointer (some ⟨b, o, none⟩)] w fun e w' => e = .returned (.string k) ∧ Below w.heap.size w w' := by
  go_enter Tryz.func109, Tryz.ntmps109
  go_wp2_with fail
  go_ret
  exact ⟨rfl, Below.refl _ _⟩
set_option maxRecDepth 100000 in
set_option maxHeartbeats 8000000 in
theorem keyTwice_any (w : World) (v : Value) (base : Nat) (l : List Hdl) (ho : OwnP w base v l) (hl : l.length ≤ 1000000) (hth : ∀ h ∈ l, HThere w h) (hz : ∀ h ∈ l, h.x.key.size ≤ maxLen) :
    Calls Tryz.prog 108 #[v, .func (.func 109) #[] #[]] w fun e w' => e = .returned (.bool (dupE (l.map Hdl.x))) ∧ Below w.heap.size w w' := by
  obtain ⟨va, vc, rfl, _, hf⟩ := ho.form
  have HC : Hid (∀ X, Below w.heap.size w X → ∀ (k : Nat) h, l[k]? = some h → ∃ g, va = some ⟨g, 0, none⟩ ∧ X.cell? ⟨g, k, none⟩ = some (.pointer (some ⟨h.b, h.o, none⟩)) ∧ X.cell? ⟨h.b, h.o, none⟩ = some (.string h.x.key) ∧ h.x.key.size ≤ maxLen) := fun X hX k h hk => by
    rcases hf with rfl | ⟨g, e, _, hg, hc⟩
    · simp at hk
    · have t := ((hth h (List.mem_of_getElem? hk)).keep hX).cells.1
      exact ⟨g, e, by rw [hX.cell (p := ⟨g, k, none⟩) hg]; exact hc k h hk, t, hz h (List.mem_of_getElem? hk)⟩
  clear hf ho hth hz
  obtain ⟨S, hS⟩ : ∃ S, Hid (dupE (l.map Hdl.x) = S) := ⟨_, rfl⟩
  rw [hS.out]
  generalize hn : l.length = n at *
  have HN : Hid (l.length = n) := hn
  clear hn
  have B0 : Hid (Below w.heap.size w (w.alloc (.map #[] 0))) := (Below.refl _ _).alloc (Nat.le_refl _) _
  have M0 : Hid (KeyMap (w.alloc (.map #[] 0)) w.heap.size []) := KeyMap.made w
  have hmm := @run_makeMap Tryz.prog
  go_enter Tryz.func108, Tryz.ntmps108
  go_wp2_with fail
  go_loopw [11] (fun i wr => ∃ k : Nat, k ≤ n ∧ i = .int .i64 k ∧ KeyMap wr w.heap.size ((l.map (fun h => h.x.key)).take k) ∧ Below w.heap.size w wr) (fun i _ => n - (intOf i).toNat)
  case atStart => exact ⟨0, Nat.zero_le _, rfl, M0.out, B0.out⟩
  case round =>
    obtain ⟨k, hk, rfl, hm, hb⟩ := hrel
    have HM : Hid (KeyMap wr w.heap.size ((l.map (fun h => h.x.key)).take k)) := hm
    clear hm M0 B0
    have HB : Hid (Below w.heap.size w wr) := hb
    by_cases hlt : k < n
    · obtain ⟨q, hr⟩ : ∃ r, l[k]? = some r := ⟨l[k]'(by have := HN.out; omega), List.getElem?_eq_getElem _⟩
      obtain ⟨g', rfl, hc, hc2, hks⟩ := HC.out _ hb k q hr
      have HK2 : Hid ((l.map (fun h => h.x.key)).take k ++ [q.x.key] = (l.map (fun h => h.x.key)).take (k + 1)) := by
        show _ = _
        obtain ⟨hk2, hr2⟩ := List.getElem?_eq_some_iff.1 hr
        rw [List.take_succ_eq_append_getElem (by simpa using hk2)]
        simp [hr2]
      have HLN : Hid (((l.map (fun h => h.x.key)).take k).length ≤ 1048576) := by
        show _ ≤ _
        rw [List.length_take, List.length_map, HN.out]
        omega
      have g : (k : Int) < n := by omega
      have g0 : (0 : Int) ≤ k := by omega
      clear hr hb HC
      generalize q.x.key = qk at *
      have C := keyOf_one wr q.b q.o qk hc2
      go_wp2_with fail
      refine C.mono ?_
      rintro e w2 ⟨rfl, hb2⟩
      have HM2 : Hid (KeyMap w2 w.heap.size ((l.map (fun h => h.x.key)).take k)) := HM.out.below hb2
      have HB2 : Hid (Below w.heap.size w w2) := HB.out.trans (hb2.mono HB.out.size)
      clear C hb2 HM HB hc hc2
      go_wp2_with (at_mapUpdate; refine wpList_putK _ rfl (.tmp 16) (.tmp 19) (.tmp 20) rfl w.heap.size _ rfl HM2.out HLN.out qk rfl hks k (by omega) rfl w.heap.size (Nat.le_refl _) ?_; intro w' hm' hb')
      rw [HK2.out] at hm'
      go_wp2_with fail
      go_roundw
      case rel => exact ⟨k + 1, by omega, by go_num, hm', HB2.out.trans hb'⟩
      case measure => simp [intOf]; omega
    · have hkn : k = n := by omega
      subst hkn
      obtain ⟨D, hD, _, hs1, hs2⟩ := HM.out
      have e : (l.map (fun h => h.x.key)).take k = (l.map Hdl.x).map Ent.key := by
        rw [List.take_of_length_le (by have := HN.out; simp; omega)]
        simp
      rw [e] at hs1 hs2
      have hlen : ((l.map Hdl.x).map Ent.key).length = k := by have := HN.out; simp; exact this
      have HE : Hid (decide (Maps.size D < k) = S) := by
        show _ = _
        rw [← hS.out]
        unfold dupE
        by_cases hd : (keysE (l.map Hdl.x)).Nodup
        · have := hs1 ((keys_nodup _).2 hd)
          rw [decide_eq_true hd]
          simp
          omega
        · have := hs2 (fun h => hd ((keys_nodup _).1 h))
          rw [decide_eq_false hd]
          simp
          omega
      have HD : Hid (wr.ownsMap Tryz.prog 9 (plainElem Tryz.prog 3) w.heap.size ((l.map (fun h => h.x.key)).take k).length D) := hD
      clear hD hs1 hs2 e HM hb
      go_wp2_with (at_len; refine wpList_len_own _ rfl (.tmp 22) 247 rfl 9 3 Tryz.underlying247 _ w.heap.size _ D rfl HD.out ?_)
      go_ret
      exact ⟨ret_bool HE.out, HB.out⟩
end Go.Proofs.YtlbagfaiiileoaaGreatDoor
/-
  Entries that a call itself grows: cells, appending.
-/
namespace Go.Proofs.YtlbagfaiiileoaaGreatDoor
open Go.ChangeShapes Go.WideShapes Go.ChangeAt Go.RowKit Go.Sort
def entsW (l : List (Ent × EntR)) : List Value := l.flatMap (fun q => entW q.1 q.2)
theorem entsW_cons (q : Ent × EntR) (l : List (Ent × EntR)) : entsW (q :: l) = entW q.1 q.2 ++ entsW l := by simp [entsW]
theorem entsW_app (l m : List (Ent × EntR)) : entsW (l ++ m) = entsW l ++ entsW m := by simp [entsW]
theorem entW_len (x : Ent) (r : EntR) : (entW x r).length = 13 := rfl
theorem entsW_len (l : List (Ent × EntR)) : (entsW l).length = l.length * 13 := by
  induction l with
  | nil => rfl
  | cons r l ih => rw [entsW_cons, List.length_append, entW_len, ih, List.length_cons]; omega
theorem entsW_at (l : List (Ent × EntR)) : ∀ (i : Nat) q, l[i]? = some q → ∀ j, j < 13 → (entsW l)[i * 13 + j]? = (entW q.1 q.2)[j]? := by
  induction l with
  | nil => intro i r hr; simp at hr
  | cons x l ih =>
    intro i q hr j hj
    rw [entsW_cons]
    cases i with
    | zero =>
      simp at hr; subst hr
      rw [Nat.zero_mul, Nat.zero_add, List.getElem?_append_left (by rw [entW_len]; exact hj)]
    | succ i =>
      have := ih i q (by simpa using hr) j hj
      rw [List.getElem?_append_right (by rw [entW_len]; omega), entW_len, show (i + 1) * 13 + j - 13 = i * 13 + j from by omega]
      exact this
theorem entsW_cells {w : World} {b off : Nat} {l : List (Ent × EntR)} (h : EntsAt w b off l) : ∀ j u, (entsW l)[j]? = some u → w.cell? ((⟨b, off, none⟩ : Addr).add j) = some u := by
  intro j u hj
  have hadd : (⟨b, off, none⟩ : Addr).add j = ⟨b, off + j, none⟩ := by unfold Addr.add; split <;> simp_all
  rw [hadd]
  have hlt : j < (entsW l).length := (List.getElem?_eq_some_iff.1 hj).1
  rw [entsW_len] at hlt
  have hm : j / 13 * 13 + j % 13 = j := by omega
  obtain ⟨q, hr⟩ : ∃ r, l[j / 13]? = some r := ⟨l[j / 13]'(by omega), List.getElem?_eq_getElem _⟩
  have e := entsW_at l (j / 13) q hr (j % 13) (by omega)
  have c := (h (j / 13) q hr).1 (j % 13) (by omega)
  rw [hm] at e
  rw [Nat.add_assoc, hm] at c
  rw [c, ← e, hj]
theorem entsW_one (l : List (Ent × EntR)) : ∀ u ∈ entsW l, u.oneCell' = true := by
  intro u hu
  simp only [entsW, List.mem_flatMap] at hu
  obtain ⟨r, _, hr⟩ := hu
  simp only [entW, List.mem_cons, List.not_mem_nil, or_false] at hr
  rcases hr with rfl | rfl | rfl | rfl | rfl | rfl | rfl | rfl | rfl | rfl | rfl | rfl | rfl <;> rfl
/-- v, nil or not, holds the entries l in a row of the call's own, from block base on. -/
def OwnE (w : World) (base : Nat) (v : Value) (l : List (Ent × EntR)) : Prop := w.ownsRow base 163 13 v l.length (entsW l)
theorem OwnE.nil (w : World) (base : Nat) : OwnE w base (.slice none 0 0) [] := World.ownsRow_nil _ _ _ _
theorem OwnE.made0 (w : World) (base : Nat) (hb : base ≤ w.heap.size) : OwnE (w.alloc (.cells #[] 163)) base (.slice (some ⟨w.heap.size, 0, none⟩) 0 0) [] := World.ownsRow_made w #[] 0 hb (by unfold maxLen; omega) rfl
theorem OwnE.below {w w' : World} {base : Nat} {v : Value} {l : List (Ent × EntR)} (h : OwnE w base v l) (hb : Below w.heap.size w w') : OwnE w' base v l := by
  obtain ⟨h1, h2⟩ := h
  refine ⟨h1, ?_⟩
  rcases h2 with h2 | ⟨g, c, cur, e, hg, hh, hrest⟩
  · exact .inl h2
  · exact .inr ⟨g, c, cur, e, hg, by rw [hb.block g (Array.getElem?_eq_some_iff.1 hh).1]; exact hh, hrest⟩
theorem OwnE.lower {w : World} {b0 base : Nat} {v : Value} {l : List (Ent × EntR)} (h : OwnE w base v l) (hb : b0 ≤ base) : OwnE w b0 v l := by
  obtain ⟨h1, h2⟩ := h
  refine ⟨h1, ?_⟩
  rcases h2 with h2 | ⟨g, c, cur, e, hg, hrest⟩
  · exact .inl h2
  · exact .inr ⟨g, c, cur, e, by omega, hrest⟩
theorem OwnE.at {w : World} {base : Nat} {v : Value} {l : List (Ent × EntR)} (h : OwnE w base v l) (hin : ∀ q ∈ l, EntIn w q.1 q.2) : ∃ a c, v = .slice a l.length c ∧ l.length ≤ c ∧ EntsIn w a l := by
  have h0 := h
  obtain ⟨_, h1 | ⟨g, c, cur, rfl, _, _, hc, _⟩⟩ := h
  · have e : l = [] := List.eq_nil_of_length_eq_zero h1.2
    exact ⟨none, 0, by rw [h1.1, e]; rfl, by rw [e]; exact Nat.le_refl _, .inl e⟩
  · refine ⟨_, c, rfl, hc, .inr ⟨g, 0, rfl, fun i q hr => ⟨fun j hj => ?_, hin q (List.mem_of_getElem? hr)⟩⟩⟩
    have hi := (List.getElem?_eq_some_iff.1 hr).1
    have c1 := World.ownsRow.cellAt h0 (i * 13 + j) (by omega)
    rw [Nat.zero_add, c1, entsW_at l i q hr j hj]
theorem own_geE {w : World} {base : Nat} {v : Value} {l : List (Ent × EntR)} (h : OwnE w base v l) (q : Nat) (hq : v.ownBlock = some q) : base ≤ q := by
  obtain ⟨_, h | ⟨g, c, cur, rfl, hg, _⟩⟩ := h
  · rw [h.1] at hq; cases hq
  · simp only [Value.ownBlock, Option.some.injEq] at hq; omega
theorem append_zeroE {P : Program} (w : World) (t ty e : TypeId) (i : TypeInfo) (ht : P.underlying t = some (.slice e)) (hi : P.info? e = some i) (base : Option Addr) (n k : Nat) (hle : n ≤ k) (pb : Option Addr) (c : Nat) :
    (Builtin.append_ #[t, t] ty #[.slice base n k, .slice pb 0 c]).run P w = .ok (.slice base n k) w := by
  cases base <;> cases pb <;> simp [Builtin.append_, run_underlying ht, sizeOf, typeInfo, hi, Builtin.lenOf, Builtin.firstCells, hle, storeCells, loadCells, loadCellsFrom]
theorem OwnE.form {w : World} {base : Nat} {v : Value} {l : List (Ent × EntR)} (h : OwnE w base v l) : ∃ va vc, v = .slice va l.length vc ∧ l.length ≤ vc := by
  obtain ⟨_, h1 | ⟨g, c2, cur, e2, _, _, hc2, _⟩⟩ := h
  · have e : l = [] := List.eq_nil_of_length_eq_zero h1.2
    subst e
    exact ⟨none, 0, h1.1, Nat.le_refl _⟩
  · exact ⟨_, c2, e2, hc2⟩
theorem wp_append_entsIn {o : Oper} {a : Act} {K : Act → World → Prop} {Q : Exit → Act → World → Prop} (w : World) (s x : Operand)
    (ho : o.op = .call { callee := .builtin .append, args := #[s, x], argTypes := #[42, 42] })
    (base : Nat) (v : Value) (l0 : List (Ent × EntR)) (pa : Option Addr) (cap m : Nat) (l : List (Ent × EntR)) (hm : l.length = m)
    (hs : a.eval s = v) (hown : OwnE w base v l0) (hx : a.eval x = .slice pa m cap) (hat : EntsIn w pa l) (hl : l0.length + m ≤ 1000000) (hbase : base ≤ w.heap.size)
    (h : ∀ v' w', OwnE w' base v' (l0 ++ l) → Below base w w' → K (a.put o.dst v') w') :
    Oper.wp Tryz.prog o a w K Q := by
  obtain ⟨i0, hi, hz0, hz1, hz2⟩ := info_parts infoEntry
  rcases hat with rfl | ⟨b, off, rfl, hat⟩
  · obtain ⟨va, vc, rfl, hle⟩ := hown.form
    simp only [List.length_nil] at hm
    subst hm
    unfold Oper.wp execOp
    simp only [ho, resolve, invoke, builtin, Sem.run_bind, Sem.run_pure, Result.andThen_ok, List.map_toArray, List.map_cons, List.map_nil, hs, hx]
    rw [append_zeroE w 42 _ 163 i0 Tryz.underlying42 hi va l0.length vc hle pa cap]
    exact h _ w (by simpa using hown) (Below.refl _ _)
  · by_cases h0 : 0 < m
    · refine wp_append_lies w s x 42 ho base 163 i0 _ 13 152 Tryz.underlying42 hi hz0 hz1 hz2 rfl (by omega) v l0.length (entsW l0) hs hown ⟨b, off, none⟩ m cap (entsW l) hx (by rw [entsW_len, hm]) (entsW_cells hat) (entsW_one l) h0 (by unfold maxLen; omega) (by omega) hbase _ rfl ?_
      intro g c w' h1 h2 h3 h4
      refine h _ w' ?_ ((Below.refl base w).grown h2 hbase (fun q hq => own_geE hown q hq))
      unfold OwnE
      rw [entsW_app, List.length_append, hm]
      exact h1
    · have : m = 0 := by omega
      subst this
      have : l = [] := List.eq_nil_of_length_eq_zero hm
      subst this
      obtain ⟨va, vc, rfl, hle⟩ := hown.form
      unfold Oper.wp execOp
      simp only [ho, resolve, invoke, builtin, Sem.run_bind, Sem.run_pure, Result.andThen_ok, List.map_toArray, List.map_cons, List.map_nil, hs, hx]
      rw [append_zeroE w 42 _ 163 i0 Tryz.underlying42 hi va l0.length vc hle _ cap]
      exact h _ w (by simpa using hown) (Below.refl _ _)
theorem step_append_entsIn {ops : Array Oper} {o : Oper} {a : Act} {K : Act → World → Prop} {Q : Exit → Act → World → Prop} {E : Prop} (w : World) (hgd : o.guard = none) (s x : Operand)
    (ho : o.op = .call { callee := .builtin .append, args := #[s, x], argTypes := #[42, 42] })
    (base : Nat) (v : Value) (l0 : List (Ent × EntR)) (pa : Option Addr) (cap m : Nat) (l : List (Ent × EntR)) (hm : l.length = m)
    (hs : a.eval s = v) (hown : OwnE w base v l0) (hx : a.eval x = .slice pa m cap) (hat : EntsIn w pa l) (hl : l0.length + m ≤ 1000000) (hbase : base ≤ w.heap.size)
    (h : ∀ v' w', OwnE w' base v' (l0 ++ l) → Below base w w' → K (a.put o.dst v') w') :
    if Region.wanted o (yielded ops a.tmps) = true then Oper.wp Tryz.prog o a w K Q else E := by
  have hw : Region.wanted o (yielded ops a.tmps) = true := by simp [Region.wanted, hgd]
  rw [if_pos hw]
  exact wp_append_entsIn w s x ho base v l0 pa cap m l hm hs hown hx hat hl hbase h
theorem wpList_append_entsIn {ops : Array Oper} {rest : List Oper} {o : Oper} {a : Act} {Q : Exit → Act → World → Prop} (w : World) (hgd : o.guard = none) (s x : Operand)
    (ho : o.op = .call { callee := .builtin .append, args := #[s, x], argTypes := #[42, 42] })
    (base : Nat) (v : Value) (l0 : List (Ent × EntR)) (pa : Option Addr) (cap m : Nat) (l : List (Ent × EntR)) (hm : l.length = m)
    (hs : a.eval s = v) (hown : OwnE w base v l0) (hx : a.eval x = .slice pa m cap) (hat : EntsIn w pa l) (hl : l0.length + m ≤ 1000000) (hbase : base ≤ w.heap.size)
    (h : ∀ v' w', OwnE w' base v' (l0 ++ l) → Below base w w' → wpList Tryz.prog ops Q rest (a.put o.dst v') w') :
    wpList Tryz.prog ops Q (o :: rest) a w :=
  wpList_plain hgd fun _ hK => wp_append_entsIn w s x ho base v l0 pa cap m l hm hs hown hx hat hl hbase fun v' w' h1 h2 => hK _ _ (h v' w' h1 h2)
end Go.Proofs.YtlbagfaiiileoaaGreatDoor
/-
  All entries of a store, by the model.
-/
namespace Go.Proofs.YtlbagfaiiileoaaGreatDoor
open Go.ChangeShapes Go.WideShapes Go.ChangeAt Go.RowKit Go.Sort
set_option maxRecDepth 100000 in
set_option maxHeartbeats 8000000 in
theorem l8All_any (w : World) (S o : Nat) (ta ka : Option Addr) (tc kc : Nat) (tl kl : List (Ent × EntR)) (c2 : w.cell? ⟨S, o + 2, none⟩ = some (.slice ta tl.length tc)) (c3 : w.cell? ⟨S, o + 3, none⟩ = some (.slice ka kl.length kc)) (hl : tl.length + kl.length ≤ 1000000) (ht : EntsIn w ta tl) (hk : EntsIn w ka kl) :
    Calls Tryz.prog 88 #[.pointer (some ⟨S, o, none⟩)] w fun e w' => (∃ v, e = .returned v ∧ OwnE w' w.heap.size v (tl ++ kl)) ∧ Below w.heap.size w w' := by
  have hlt : S < w.heap.size := block_lt_of_cell c2
  have HKS : Hid (∀ X, Below w.heap.size w X → X.cell? ⟨S, o + 2, none⟩ = some (.slice ta tl.length tc) ∧ X.cell? ⟨S, o + 3, none⟩ = some (.slice ka kl.length kc)) := fun X hX => ⟨by rw [hX.cell (p := ⟨S, o + 2, none⟩) hlt]; exact c2, by rw [hX.cell (p := ⟨S, o + 3, none⟩) hlt]; exact c3⟩
  have HI : Hid (∀ X, Below w.heap.size w X → EntsIn X ta tl ∧ EntsIn X ka kl) := fun X hX => ⟨ht.keep hX, hk.keep hX⟩
  have B0 : Hid (Below w.heap.size w w.drew) := (Below.refl _ _).drew
  have B1 : Hid (Below w.heap.size w (w.drew.alloc (.cells #[] 163))) := ((Below.refl _ _).drew).alloc (Nat.le_refl _) _
  have O1 : Hid (OwnE (w.drew.alloc (.cells #[] 163)) w.heap.size (.slice (some ⟨w.heap.size, 0, none⟩) 0 0) []) := OwnE.made0 w.drew w.heap.size (Nat.le_refl _)
  clear c2 c3 ht hk
  obtain ⟨tn, htn⟩ : ∃ n, Hid (tl.length = n) := ⟨_, rfl⟩
  obtain ⟨kn, hkn⟩ : ∃ n, Hid (kl.length = n) := ⟨_, rfl⟩
  rw [htn.out, hkn.out] at HKS hl
  go_enter Tryz.func88, Tryz.ntmps88
  go_wp2_with fail
  go_region_held3 (fun X => X.cell? ⟨S, o + 2, none⟩ = some (.slice ta tn tc) ∧ X.cell? ⟨S, o + 3, none⟩ = some (.slice ka kn kc))
    (first | exact HKS.out _ BB.out | exact HKS.out _ BA.out | exact HKS.out _ B1.out | exact HKS.out _ B0.out)
    (first
    | (refine step_append_entsIn _ (by rfl) _ _ (by rfl) w.heap.size _ tl ka kc kn kl hkn.out (by rfl) OA.out (by rfl) (HI.out _ BA.out).2 (by rw [htn.out]; exact hl) BA.out.size ?_; intro v2 w2 ho2 hb2; have BB : Hid (Below w.heap.size w w2) := BA.out.trans hb2; have OB : Hid (OwnE w2 w.heap.size v2 (tl ++ kl)) := ho2; clear ho2 hb2)
    | (refine step_append_entsIn _ (by rfl) _ _ (by rfl) w.heap.size _ [] ta tc tn tl htn.out (by rfl) O1.out (by rfl) (HI.out _ B1.out).1 (by simp; omega) B1.out.size ?_; intro v1 w1 ho1 hb1; have BA : Hid (Below w.heap.size w w1) := B1.out.trans hb1; have OA : Hid (OwnE w1 w.heap.size v1 tl) := ho1; clear ho1 hb1))
  all_goals
    go_wp2_with fail
    go_ret
    exact ⟨⟨_, rfl, OB.out⟩, BB.out⟩
end Go.Proofs.YtlbagfaiiileoaaGreatDoor
/-
  Is it a store? The specification's answer.
-/
namespace Go.Proofs.YtlbagfaiiileoaaGreatDoor
open Go.ChangeShapes Go.WideShapes Go.ChangeAt Go.RowKit Go.Sort
/-- An entry that fits, its key too. -/
structure EntOk (x : Ent) : Prop where
  key : x.key.size ≤ maxLen
  h : x.hs.length ≤ 1048576
  b : x.bl.length ≤ maxLen
  t : x.ts.length ≤ maxLen
theorem specEntry_q (w : World) (q : Ent × EntR) (ho : EntOk q.1) (hi : EntIn w q.1 q.2) :
    Calls Tryz.prog 89 #[.agg #[.string q.1.key, .int .i64 q.1.st, .slice q.2.ha q.1.hs.length q.2.hc, .slice q.2.ba q.1.bl.length q.2.bc, .int .i64 q.1.t, .int .i64 q.1.g, .int .i64 q.1.l, .int .i64 q.1.s, .int .i64 q.1.e, .bool q.1.b1, .bool q.1.b2, .slice q.2.ta q.1.ts.length q.2.tc, .int .i64 q.1.pins]] w fun r w' => r = .returned (.int .i64 (entC q.1)) ∧ Below w.heap.size w w' :=
  specEntry_any w _ _ _ _ _ _ _ _ _ _ _ _ _ _ _ _ _ _ _ ho.key ho.h ho.b ho.t hi.h
theorem faultE_drop {l : List (Ent × EntR)} {k : Nat} {q : Ent × EntR} (h : l[k]? = some q) : faultE ((l.map Prod.fst).drop k) = if entC q.1 ≠ 0 then entC q.1 else faultE ((l.map Prod.fst).drop (k + 1)) := by
  obtain ⟨hk, rfl⟩ := List.getElem?_eq_some_iff.1 h
  rw [List.drop_eq_getElem_cons (i := k) (by simpa using hk), faultE]
  simp
theorem keys_at {l : List (Ent × EntR)} {k : Nat} {q : Ent × EntR} (h : l[k]? = some q) : (keysE (l.map Prod.fst))[k]? = some q.1.key.toList := by
  unfold keysE
  rw [List.getElem?_map, List.getElem?_map, h]
  rfl
theorem nodup_succ {K : List (List UInt8)} {k : Nat} {x : List UInt8} (h : (K.take k).Nodup) (hk : K[k]? = some x) (hn : ∀ (j : Nat) y, j < k → K[j]? = some y → ¬ x = y) : (K.take (k + 1)).Nodup := by
  obtain ⟨hlt, rfl⟩ := List.getElem?_eq_some_iff.1 hk
  rw [List.take_succ_eq_append_getElem hlt]
  refine List.nodup_append.2 ⟨h, by simp, ?_⟩
  intro a ha b hb
  simp only [List.mem_singleton] at hb
  subst hb
  obtain ⟨j, hj⟩ := List.mem_iff_getElem?.1 ha
  have hjk : j < k := by
    have := (List.getElem?_eq_some_iff.1 hj).1
    simp at this; omega
  rw [List.getElem?_take_of_lt hjk] at hj
  exact fun e => hn j a hjk hj e.symm
theorem dup_of {l : List (Ent × EntR)} {j k : Nat} {p q : Ent × EntR} (hjk : j < k) (hj : l[j]? = some p) (hk : l[k]? = some q) (e : q.1.key.toList = p.1.key.toList) : dupE (l.map Prod.fst) = true := by
  unfold dupE
  rw [Bool.not_eq_true', decide_eq_false_iff_not]
  intro hn
  have a := keys_at hj
  have b := keys_at hk
  rw [e] at b
  obtain ⟨h1, e1⟩ := List.getElem?_eq_some_iff.1 a
  obtain ⟨h2, e2⟩ := List.getElem?_eq_some_iff.1 b
  have := List.pairwise_iff_getElem.1 hn j k h1 h2 hjk
  rw [e1, e2] at this
  exact this rfl
set_option maxRecDepth 100000 in
set_option maxHeartbeats 16000000 in
theorem specSto_any (w : World) (bu gu : Int) (ta ka : Option Addr) (tc kc : Nat) (tl kl : List (Ent × EntR)) (hl : tl.length ≤ 1048576) (hk : kl.length ≤ 1048576) (hto : ∀ q ∈ tl ++ kl, EntOk q.1) (ht : EntsIn w ta tl) (hq : EntsIn w ka kl) :
    Calls Tryz.prog 38 #[.agg #[.int .i64 bu, .int .i64 gu, .slice ta tl.length tc, .slice ka kl.length kc]] w fun r w' => r = .returned (.int .i64 (storeC bu gu (tl.map Prod.fst) (kl.map Prod.fst))) ∧ Below w.heap.size w w' := by
  obtain ⟨W, hW⟩ : ∃ W, W = w.alloc (.cells #[.int .i64 bu, .int .i64 gu, .slice ta tl.length tc, .slice ka kl.length kc] 44) := ⟨_, rfl⟩
  have HW : Hid (W = w.alloc (.cells #[.int .i64 bu, .int .i64 gu, .slice ta tl.length tc, .slice ka kl.length kc] 44)) := hW
  have K0 : Hid (Below w.heap.size w W ∧ S4 W w.heap.size (.int .i64 bu) (.int .i64 gu) (.slice ta tl.length tc) (.slice ka kl.length kc)) := by
    rw [hW]; exact ⟨(Below.refl _ _).alloc (Nat.le_refl _) _, S4.new w _ _ _ _ _⟩
  have HI1 : Hid (∀ w, Calls Tryz.prog 84 #[.int .i64 bu, .int .i64 0, .int .i64 1000000] w fun r w' => r = .returned (.bool (decide (0 ≤ bu) && decide (bu ≤ 1000000))) ∧ w' = w) := l1In_all bu 0 1000000
  have HI2 : Hid (∀ w, Calls Tryz.prog 84 #[.int .i64 gu, .int .i64 0, .int .i64 bu] w fun r w' => r = .returned (.bool (decide (0 ≤ gu) && decide (gu ≤ bu))) ∧ w' = w) := l1In_all gu 0 bu
  obtain ⟨Z, hZ⟩ : ∃ Z, storeC bu gu (tl.map Prod.fst) (kl.map Prod.fst) = Z := ⟨_, rfl⟩
  rw [hZ]
  unfold storeC at hZ
  rw [← List.map_append, List.length_map, List.length_map] at hZ
  have HZ : Hid (_ = Z) := hZ
  have HALL : Hid (tl.length + kl.length ≤ 40 → Calls Tryz.prog 88 #[.pointer (some ⟨w.heap.size, 0, none⟩)] W fun e w' => (∃ v, e = .returned v ∧ OwnE w' W.heap.size v (tl ++ kl)) ∧ Below W.heap.size W w') := fun h40 => l8All_any W w.heap.size 0 ta ka tc kc tl kl K0.out.2.c2 K0.out.2.c3 (by omega) (ht.keep K0.out.1) (hq.keep K0.out.1)
  have HIN : Hid (∀ X, Below w.heap.size w X → (∀ q ∈ tl ++ kl, EntIn X q.1 q.2) ∧ EntsIn X ka kl) := fun X hX => by
    refine ⟨fun q hq' => ?_, hq.keep hX⟩
    rcases List.mem_append.1 hq' with h | h
    · rcases ht.keep hX with e | ⟨b, off, _, hat⟩
      · subst e; simp at h
      · obtain ⟨i, hi⟩ := List.mem_iff_getElem?.1 h; exact hat.in hi
    · rcases hq.keep hX with e | ⟨b, off, _, hat⟩
      · subst e; simp at h
      · obtain ⟨i, hi⟩ := List.mem_iff_getElem?.1 h; exact hat.in hi
  have HOK : Hid (∀ q ∈ tl ++ kl, EntOk q.1) := hto
  clear hZ hW ht hq hto
  have hlen : (tl ++ kl).length = tl.length + kl.length := by simp
  have HKL : Hid (∀ q ∈ kl, q ∈ tl ++ kl) := fun q hq => List.mem_append_right _ hq
  obtain ⟨al, hal⟩ : ∃ al, Hid (tl ++ kl = al) := ⟨_, rfl⟩
  rw [hal.out] at HALL HIN HOK HKL hlen
  rw [hal.out] at HZ
  clear hal
  obtain ⟨tn, htn⟩ : ∃ n, Hid (tl.length = n) := ⟨_, rfl⟩
  obtain ⟨kn, hkn⟩ : ∃ n, Hid (kl.length = n) := ⟨_, rfl⟩
  rw [htn.out, hkn.out] at K0 HZ HALL HW hlen
  rw [htn.out] at hl
  rw [hkn.out] at hk
  rw [htn.out, hkn.out]
  have HLN : Hid (al.length = tn + kn) := hlen
  clear hlen htn
  by_cases c1 : bu < 0 ∨ 1000000 < bu
  · have HR : Hid (3 = Z) := by have := HZ.out; rw [if_pos (by omega)] at this; exact this
    have e1 : (decide (0 ≤ bu) && decide (bu ≤ 1000000)) = false := by simp; omega
    rw [e1] at HI1
    clear HZ HALL HIN HOK
    go_enter Tryz.func38, Tryz.ntmps38
    go_wp2_with fail
    refine (HI1.out _).mono ?_
    rintro r w1 ⟨rfl, rfl⟩
    go_wp2_with fail
    go_ret
    exact ⟨ret_int HR.out, HW.out ▸ K0.out.1⟩
  have e1 : (decide (0 ≤ bu) && decide (bu ≤ 1000000)) = true := by simp; omega
  rw [e1] at HI1
  clear e1
  by_cases c2 : gu < 0 ∨ bu < gu
  · have HR : Hid (3 = Z) := by have := HZ.out; rw [if_pos (by omega)] at this; exact this
    have e1 : (decide (0 ≤ gu) && decide (gu ≤ bu)) = false := by simp; omega
    rw [e1] at HI2
    clear HZ HALL HIN HOK
    go_enter Tryz.func38, Tryz.ntmps38
    go_wp2_with fail
    refine (HI1.out _).mono ?_
    rintro r w1 ⟨rfl, rfl⟩
    go_wp2_with fail
    refine (HI2.out _).mono ?_
    rintro r w1 ⟨rfl, rfl⟩
    go_wp2_with fail
    go_ret
    exact ⟨ret_int HR.out, HW.out ▸ K0.out.1⟩
  have e1 : (decide (0 ≤ gu) && decide (gu ≤ bu)) = true := by simp; omega
  rw [e1] at HI2
  clear e1
  rw [if_neg (by omega)] at HZ
  have ew : IntKind.i64.wrap ((tn : Int) + (kn : Int)) = (tn : Int) + (kn : Int) := by
    unfold IntKind.wrap; simp [IntKind.signed, IntKind.bits]; omega
  by_cases c3 : 40 < tn + kn
  · have HR : Hid (2 = Z) := by have := HZ.out; rw [if_pos c3] at this; exact this
    have g3 : (40 : Int) < (tn : Int) + (kn : Int) := by omega
    clear HZ HALL HIN HOK
    go_enter Tryz.func38, Tryz.ntmps38
    go_wp2_with fail
    refine (HI1.out _).mono ?_
    rintro r w1 ⟨rfl, rfl⟩
    go_wp2_with fail
    refine (HI2.out _).mono ?_
    rintro r w1 ⟨rfl, rfl⟩
    go_wp2_with fail
    go_ret
    exact ⟨ret_int HR.out, HW.out ▸ K0.out.1⟩
  have HZ2 : Hid ((if faultE (al.map Prod.fst) ≠ 0 then faultE (al.map Prod.fst) else if dupE (al.map Prod.fst) = true then 6 else if bu < costsE (al.map Prod.fst) ∨ gu < costsE (kl.map Prod.fst) then 7 else 0) = Z) := by have := HZ.out; rw [if_neg c3] at this; exact this
  have g3 : ¬ (40 : Int) < (tn : Int) + (kn : Int) := by omega
  clear HZ
  have C0 := HALL.out (by omega)
  have CA : Hid (Calls Tryz.prog 88 #[.pointer (some ⟨w.heap.size, 0, none⟩)] W fun e w' => (∃ v, e = .returned v ∧ OwnE w' W.heap.size v al) ∧ Below W.heap.size W w') := C0
  clear HALL C0
  go_enter Tryz.func38, Tryz.ntmps38
  go_wp2_with fail
  refine (HI1.out _).mono ?_
  rintro r w1 ⟨rfl, rfl⟩
  go_wp2_with fail
  refine (HI2.out _).mono ?_
  rintro r w1 ⟨rfl, rfl⟩
  go_wp2_with fail
  rw [← HW.out]
  refine CA.out.mono ?_
  rintro r w1 ⟨⟨v, rfl, hown⟩, hb1⟩
  have hb1' := K0.out.1.trans (hb1.mono K0.out.1.size)
  obtain ⟨aa, ac, rfl, _, hae⟩ := hown.at (HIN.out _ hb1').1
  have K1 : Hid (Below w.heap.size w w1 ∧ S4 w1 w.heap.size (.int .i64 bu) (.int .i64 gu) (.slice ta tn tc) (.slice ka kn kc)) := ⟨hb1', K0.out.2.keep hb1⟩
  have HAE : Hid (EntsIn w1 aa al) := hae
  have HKI : Hid (EntsIn w1 ka kl) := (HIN.out _ hb1').2
  clear hb1 hb1' hown K0 HW CA HIN hae
  rw [HLN.out]
  obtain ⟨n, hn⟩ : ∃ n, tn + kn = n := ⟨_, rfl⟩
  rw [hn] at HLN ⊢
  have hn40 : n ≤ 40 := by omega
  have HSUM : Hid (tn + kn = n) := hn
  clear hn
  go_wp2_with fail
  go_loopw [4] (fun i wr => ∃ k : Nat, k ≤ n ∧ i = .int .i64 k ∧ faultE (al.map Prod.fst) = faultE ((al.map Prod.fst).drop k) ∧ Below w1.heap.size w1 wr) (fun i _ => n - (intOf i).toNat)
  case atStart => exact ⟨0, Nat.zero_le _, rfl, rfl, Below.refl _ _⟩
  case round =>
    obtain ⟨k, hk, rfl, hs, hb⟩ := hrel
    have HS : Hid (faultE (al.map Prod.fst) = faultE ((al.map Prod.fst).drop k)) := hs
    clear hs
    by_cases hlt : k < n
    · obtain ⟨q, hr⟩ : ∃ r, al[k]? = some r := ⟨al[k]'(by have := HLN.out; omega), List.getElem?_eq_getElem _⟩
      rcases HAE.out with h | ⟨b, off, rfl, hat⟩
      · subst h; simp at hr
      have PC := (hat.keep hb).cells hr
      have C : Hid (∀ X, Below w1.heap.size w1 X → Calls Tryz.prog 89 #[.agg #[.string q.1.key, .int .i64 q.1.st, .slice q.2.ha q.1.hs.length q.2.hc, .slice q.2.ba q.1.bl.length q.2.bc, .int .i64 q.1.t, .int .i64 q.1.g, .int .i64 q.1.l, .int .i64 q.1.s, .int .i64 q.1.e, .bool q.1.b1, .bool q.1.b2, .slice q.2.ta q.1.ts.length q.2.tc, .int .i64 q.1.pins]] X fun r w' => r = .returned (.int .i64 (entC q.1)) ∧ Below X.heap.size X w') := fun X hX => specEntry_q X q (HOK.out q (List.mem_of_getElem? hr)) ((hat.keep hX).in hr)
      have HD : Hid (faultE (al.map Prod.fst) = if entC q.1 ≠ 0 then entC q.1 else faultE ((al.map Prod.fst).drop (k + 1))) := by show _ = _; rw [HS.out, faultE_drop hr]
      have g : (k : Int) < n := by omega
      have g0 : (0 : Int) ≤ k := by omega
      have HB : Hid (Below w1.heap.size w1 wr) := hb
      have p0 := PC.1
      have p1 := PC.2.1
      have p2 := PC.2.2.1
      have p3 := PC.2.2.2.1
      have p4 := PC.2.2.2.2.1
      have p5 := PC.2.2.2.2.2.1
      have p6 := PC.2.2.2.2.2.2.1
      have p7 := PC.2.2.2.2.2.2.2.1
      have p8 := PC.2.2.2.2.2.2.2.2.1
      have p9 := PC.2.2.2.2.2.2.2.2.2.1
      have p10 := PC.2.2.2.2.2.2.2.2.2.2.1
      have p11 := PC.2.2.2.2.2.2.2.2.2.2.2.1
      have p12 := PC.2.2.2.2.2.2.2.2.2.2.2.2
      clear PC hr hat HS hb
      generalize entC q.1 = ec at *
      go_wp2_with fail
      refine (C.out _ HB.out).mono ?_
      rintro r w2 ⟨rfl, hb2⟩
      have HB2 : Hid (Below w1.heap.size w1 w2) := HB.out.trans (hb2.mono HB.out.size)
      clear hb2 C HB p0 p1 p2 p3 p4 p5 p6 p7 p8 p9 p10 p11 p12
      by_cases ce : ec = 0
      · have HE : Hid (faultE (al.map Prod.fst) = faultE ((al.map Prod.fst).drop (k + 1))) := by show _ = _; rw [HD.out, if_neg (by simpa using ce)]
        clear HD
        subst ce
        go_wp2_with fail
        go_roundw
        case rel => exact ⟨k + 1, by omega, by go_num, HE.out, HB2.out⟩
        case measure => simp [intOf]; omega
      · have HE : Hid (ec = Z) := by
          show _ = _
          have := HZ2.out
          rw [HD.out, if_pos ce, if_pos ce] at this
          exact this
        clear HD
        go_wp2_with fail
        go_ret
        exact ⟨ret_int HE.out, K1.out.1.trans (HB2.out.mono K1.out.1.size)⟩
    · have HF0 : faultE (al.map Prod.fst) = 0 := by
        rw [HS.out, List.drop_of_length_le (by have := HLN.out; simp; omega), faultE]
      have HZ3 : Hid ((if dupE (al.map Prod.fst) = true then 6 else if bu < costsE (al.map Prod.fst) ∨ gu < costsE (kl.map Prod.fst) then 7 else 0) = Z) := by
        show _ = _
        have := HZ2.out
        rw [HF0] at this
        simpa using this
      have HEC : Hid (∀ q ∈ al, entC q.1 = 0) := fun q hq => faultE_zero HF0 q.1 (List.mem_map_of_mem hq)
      have HB1 : Hid (Below w1.heap.size w1 wr) := hb
      clear HS HF0 HZ2 HOK hb
      go_wp2_with fail
      obtain ⟨wo, rfl⟩ : ∃ wo : World, wo = wr := ⟨_, rfl⟩
      go_loopw [6] (fun i wr => ∃ k : Nat, k ≤ n ∧ i = .int .i64 k ∧ ((keysE (al.map Prod.fst)).take k).Nodup ∧ Below w1.heap.size w1 wr) (fun i _ => n - (intOf i).toNat)
      case atStart => exact ⟨0, Nat.zero_le _, rfl, by simp, HB1.out⟩
      case round =>
        obtain ⟨i, hi, rfl, hnd, hbi⟩ := hrel
        have HND : Hid (((keysE (al.map Prod.fst)).take i).Nodup) := hnd
        have HBI : Hid (Below w1.heap.size w1 wr) := hbi
        clear hnd hbi HB1
        by_cases hli : i < n
        · obtain ⟨q, hr⟩ : ∃ r, al[i]? = some r := ⟨al[i]'(by have := HLN.out; omega), List.getElem?_eq_getElem _⟩
          have HQ : Hid (al[i]? = some q) := hr
          clear hr
          have gi : (i : Int) < n := by omega
          go_wp2_with fail
          obtain ⟨wp, rfl⟩ : ∃ wp : World, wp = wr := ⟨_, rfl⟩
          go_loopw [7] (fun x wr => ∃ j : Nat, j ≤ i ∧ x = .int .i64 j ∧ (∀ (j' : Nat) y, j' < j → (keysE (al.map Prod.fst))[j']? = some y → ¬ q.1.key.toList = y) ∧ Below w1.heap.size w1 wr) (fun x _ => i - (intOf x).toNat)
          case atStart => exact ⟨0, Nat.zero_le _, rfl, fun j' y h => absurd h (by omega), HBI.out⟩
          case round =>
            obtain ⟨j, hj, rfl, hne, hbj⟩ := hrel
            have HNE : Hid (∀ (j' : Nat) y, j' < j → (keysE (al.map Prod.fst))[j']? = some y → ¬ q.1.key.toList = y) := hne
            have HBJ : Hid (Below w1.heap.size w1 wr) := hbj
            clear hne HBI
            by_cases hlj : j < i
            · obtain ⟨p, hp⟩ : ∃ r, al[j]? = some r := ⟨al[j]'(by have := HLN.out; omega), List.getElem?_eq_getElem _⟩
              rcases HAE.out with h | ⟨b, off, rfl, hat⟩
              · subst h; simp at hp
              have a1 := cell_regrown ((hat.keep hbj).cells HQ.out).1
              have a2 := cell_regrown ((hat.keep hbj).cells hp).1
              have HP : Hid (al[j]? = some p) := hp
              have gj : (j : Int) < i := by omega
              have gj0 : (0 : Int) ≤ j := by omega
              have gi0 : (0 : Int) ≤ i := by omega
              have gjn : (j : Int) < n := by omega
              clear hp hat hbj
              by_cases he : q.1.key.toList = p.1.key.toList
              · have HE : Hid (6 = Z) := by
                  show _ = _
                  have := HZ3.out
                  rw [if_pos (dup_of hlj HP.out HQ.out he)] at this
                  exact this
                have e1 : (q.1.key.toList == p.1.key.toList) = true := by simp [he]
                clear he HNE
                generalize q.1.key = qk at *
                generalize p.1.key = pk at *
                go_wp2_with fail
                refine wp_region_quiet_below (by kernel_rfl) (by kernel_rfl) ?_
                repeat (go_big_quiet_step (fail))
                refine wpQuiet_nil ?_
                intro w2 hw2
                have hbb : Below w1.heap.size w1 w2 := by
                  obtain ⟨⟨d, os⟩, rfl⟩ := hw2
                  exact HBJ.out.trans ((below_regrown wr d os).mono HBJ.out.size)
                clear a1 a2 hw2
                go_wp2_with fail
                go_ret
                exact ⟨ret_int HE.out, K1.out.1.trans (hbb.mono K1.out.1.size)⟩
              · have e1 : (q.1.key.toList == p.1.key.toList) = false := by simp [he]
                have HN2 : Hid (∀ (j' : Nat) y, j' < j + 1 → (keysE (al.map Prod.fst))[j']? = some y → ¬ q.1.key.toList = y) := by
                  intro j' y h1 h2
                  by_cases e : j' = j
                  · subst e
                    rw [keys_at HP.out] at h2
                    obtain rfl := Option.some.inj h2
                    exact he
                  · exact HNE.out j' y (by omega) h2
                clear he HNE
                obtain ⟨qk, hqk⟩ : ∃ k, q.1.key = k := ⟨_, rfl⟩
                obtain ⟨pk, hpk⟩ : ∃ k, p.1.key = k := ⟨_, rfl⟩
                rw [hqk] at a1 e1
                rw [hpk] at a2 e1
                go_wp2_with fail
                refine wp_region_quiet_below (by kernel_rfl) (by kernel_rfl) ?_
                repeat (go_big_quiet_step (fail))
                refine wpQuiet_nil ?_
                intro w2 hw2
                have hbb : Below w1.heap.size w1 w2 := by
                  obtain ⟨⟨d, os⟩, rfl⟩ := hw2
                  exact HBJ.out.trans ((below_regrown wr d os).mono HBJ.out.size)
                clear a1 a2 hw2
                go_wp2_with fail
                go_roundw
                case rel => exact ⟨j + 1, by omega, by go_num, HN2.out, hbb⟩
                case measure => simp [intOf]; omega
            · have hji : j = i := by omega
              subst hji
              have HN2 : Hid (((keysE (al.map Prod.fst)).take (j + 1)).Nodup) := nodup_succ HND.out (keys_at HQ.out) HNE.out
              clear HNE hbj
              go_wp2_with fail
              go_roundw
              case rel => exact ⟨j + 1, by omega, by go_num, HN2.out, HBJ.out⟩
              case measure => simp [intOf]; omega
        · have hd : dupE (al.map Prod.fst) = false := by
            have := HND.out
            rw [List.take_of_length_le (by have := HLN.out; unfold keysE; simp; omega)] at this
            unfold dupE
            simp [this]
          have HZ4 : Hid ((if bu < costsE (al.map Prod.fst) ∨ gu < costsE (kl.map Prod.fst) then 7 else 0) = Z) := by
            show _ = _
            have := HZ3.out
            rw [hd] at this
            simpa using this
          have hbi := HBI.out
          have KK := K1.out.2.keep hbi
          have cA : ∀ d os, Calls Tryz.prog 90 #[.slice aa n ac] (grow (redrawn wr d) os) fun e w'' => e = .returned (.int .i64 (costsE (al.map Prod.fst))) ∧ ∃ p : Regrown, w'' = grow (redrawn wr p.d) p.os := fun d os => Calls.regrown_of (by
            have := l8Costs_any (grow (redrawn wr d) os) aa ac al (by rw [HLN.out]; exact hn40) (HAE.out.keep (hbi.trans ((below_regrown wr d os).mono hbi.size))) HEC.out
            rw [HLN.out] at this
            exact this)
          have cK : ∀ d os, Calls Tryz.prog 90 #[.slice ka kn kc] (grow (redrawn wr d) os) fun e w'' => e = .returned (.int .i64 (costsE (kl.map Prod.fst))) ∧ ∃ p : Regrown, w'' = grow (redrawn wr p.d) p.os := fun d os => Calls.regrown_of (by
            have hsum := HSUM.out
            have := l8Costs_any (grow (redrawn wr d) os) ka kc kl (by rw [hkn.out]; omega) (HKI.out.keep (hbi.trans ((below_regrown wr d os).mono hbi.size))) (fun q hq => HEC.out q (HKL.out q hq))
            rw [hkn.out] at this
            exact this)
          have a0 := cell_regrown KK.c0
          have a1 := cell_regrown KK.c1
          have a3 := cell_regrown KK.c3
          have HBW : Hid (Below w.heap.size w wr) := K1.out.1.trans (hbi.mono K1.out.1.size)
          clear hd HZ3 HND HBI HEC KK hbi HAE HKI HKL K1 HI1 HI2
          generalize costsE (al.map Prod.fst) = ca at *
          generalize costsE (kl.map Prod.fst) = ck at *
          by_cases d1 : bu < ca
          · have HE : Hid (7 = Z) := by have := HZ4.out; rw [if_pos (.inl d1)] at this; exact this
            clear HZ4
            go_wp2_with fail
            refine wp_region_quiet_below (by kernel_rfl) (by kernel_rfl) ?_
            repeat (go_big_quiet_step (first | (go_at_call 90; exact cA _ _)))
            refine wpQuiet_nil ?_
            intro w2 hw2
            have hbb : Below w.heap.size w w2 := by
              obtain ⟨⟨d, os⟩, rfl⟩ := hw2
              exact HBW.out.trans ((below_regrown wr d os).mono HBW.out.size)
            clear a0 a1 a3 hw2 cA cK
            go_wp2_with fail
            go_ret
            exact ⟨ret_int HE.out, hbb⟩
          have dd1 : decide (bu < ca) = false := decide_eq_false (by omega)
          by_cases d2 : gu < ck
          · have dd2 : decide (gu < ck) = true := decide_eq_true d2
            have HE : Hid (7 = Z) := by have := HZ4.out; rw [if_pos (.inr d2)] at this; exact this
            clear HZ4
            go_wp2_with fail
            refine wp_region_quiet_below (by kernel_rfl) (by kernel_rfl) ?_
            repeat (go_big_quiet_step (first | (go_at_call 90; with_reducible exact cA _ _) | (go_at_call 90; with_reducible exact cK _ _)))
            refine wpQuiet_nil ?_
            intro w2 hw2
            have hbb : Below w.heap.size w w2 := by
              obtain ⟨⟨d, os⟩, rfl⟩ := hw2
              exact HBW.out.trans ((below_regrown wr d os).mono HBW.out.size)
            clear a0 a1 a3 hw2 cA cK
            go_wp2_with fail
            go_ret
            exact ⟨ret_int HE.out, hbb⟩
          · have dd2 : decide (gu < ck) = false := decide_eq_false d2
            have HE : Hid (0 = Z) := by have := HZ4.out; rw [if_neg (by omega)] at this; exact this
            clear HZ4
            go_wp2_with fail
            refine wp_region_quiet_below (by kernel_rfl) (by kernel_rfl) ?_
            repeat (go_big_quiet_step (first | (go_at_call 90; with_reducible exact cA _ _) | (go_at_call 90; with_reducible exact cK _ _)))
            refine wpQuiet_nil ?_
            intro w2 hw2
            have hbb : Below w.heap.size w w2 := by
              obtain ⟨⟨d, os⟩, rfl⟩ := hw2
              exact HBW.out.trans ((below_regrown wr d os).mono HBW.out.size)
            clear a0 a1 a3 hw2 cA cK
            go_wp2_with fail
            go_ret
            exact ⟨ret_int HE.out, hbb⟩
end Go.Proofs.YtlbagfaiiileoaaGreatDoor
/-
  Is it a store? The program's answer.
-/
namespace Go.Proofs.YtlbagfaiiileoaaGreatDoor
open Go.ChangeShapes Go.WideShapes Go.ChangeAt Go.RowKit Go.Sort
theorem implEntry_h (w : World) (h : Hdl) (hset : SetIs w) (ho : EntOk h.x) (ht : HThere w h) :
    Calls Tryz.prog 107 #[.agg #[.string h.x.key, .int .i64 h.x.st, .slice h.r.ha h.x.hs.length h.r.hc, .slice h.r.ba h.x.bl.length h.r.bc, .int .i64 h.x.t, .int .i64 h.x.g, .int .i64 h.x.l, .int .i64 h.x.s, .int .i64 h.x.e, .bool h.x.b1, .bool h.x.b2, .slice h.r.ta h.x.ts.length h.r.tc, .int .i64 h.x.pins]] w fun r w' => r = .returned (.int .i64 (entC h.x)) ∧ Below w.heap.size w w' :=
  implEntry_any w _ _ _ _ _ _ _ _ _ _ _ _ _ _ _ _ _ _ _ ho.key ho.h ho.b ho.t hset ht.2.h
theorem faultE_dropH {l : List Hdl} {k : Nat} {q : Hdl} (h : l[k]? = some q) : faultE ((l.map Hdl.x).drop k) = if entC q.x ≠ 0 then entC q.x else faultE ((l.map Hdl.x).drop (k + 1)) := by
  obtain ⟨hk, rfl⟩ := List.getElem?_eq_some_iff.1 h
  rw [List.drop_eq_getElem_cons (i := k) (by simpa using hk), faultE]
  simp
set_option maxRecDepth 100000 in
set_option maxHeartbeats 16000000 in
theorem implSto_any (w : World) (bu gu : Int) (ta ka : Option Addr) (tc kc : Nat) (tl kl : List (Ent × EntR)) (hset : SetIs w) (hl : tl.length ≤ 1048576) (hk : kl.length ≤ 1048576) (hto : ∀ q ∈ tl ++ kl, EntOk q.1) (ht : EntsIn w ta tl) (hq : EntsIn w ka kl) :
    Calls Tryz.prog 48 #[.agg #[.int .i64 bu, .int .i64 gu, .slice ta tl.length tc, .slice ka kl.length kc]] w fun r w' => r = .returned (.int .i64 (storeC bu gu (tl.map Prod.fst) (kl.map Prod.fst))) ∧ Below w.heap.size w w' := by
  obtain ⟨W, hW⟩ : ∃ W, W = w.alloc (.cells #[.int .i64 bu, .int .i64 gu, .slice ta tl.length tc, .slice ka kl.length kc] 44) := ⟨_, rfl⟩
  have HW : Hid (W = w.alloc (.cells #[.int .i64 bu, .int .i64 gu, .slice ta tl.length tc, .slice ka kl.length kc] 44)) := hW
  have K0 : Hid (Below w.heap.size w W ∧ S4 W w.heap.size (.int .i64 bu) (.int .i64 gu) (.slice ta tl.length tc) (.slice ka kl.length kc)) := by
    rw [hW]; exact ⟨(Below.refl _ _).alloc (Nat.le_refl _) _, S4.new w _ _ _ _ _⟩
  obtain ⟨H1, hH1⟩ : ∃ H, hdlsA ta tl = H := ⟨_, rfl⟩
  obtain ⟨H2, hH2⟩ : ∃ H, hdlsA ka kl = H := ⟨_, rfl⟩
  have e1 : H1.map Hdl.x = tl.map Prod.fst := by rw [← hH1]; exact hdlsA_x ta tl
  have e2 : H2.map Hdl.x = kl.map Prod.fst := by rw [← hH2]; exact hdlsA_x ka kl
  have l1 : H1.length = tl.length := by rw [← hH1]; exact hdlsA_len ta tl
  have l2 : H2.length = kl.length := by rw [← hH2]; exact hdlsA_len ka kl
  have HSH : Hid (Calls Tryz.prog 105 #[.agg #[.int .i64 bu, .int .i64 gu, .slice ta tl.length tc, .slice ka kl.length kc]] W fun e w' => (∃ v1 v2, e = .returned (.agg #[v1, v2]) ∧ TwoP w' W.heap.size v1 v2 H1 H2) ∧ Below W.heap.size W w') := by
    have := shelvesOf_any W bu gu ta ka tc kc tl kl hl hk (ht.keep K0.out.1) (hq.keep K0.out.1)
    rw [hH1, hH2] at this
    exact this
  have HTH : Hid (∀ X, Below w.heap.size w X → ∀ h ∈ H1 ++ H2, HThere X h) := fun X hX h hh => by
    rcases List.mem_append.1 hh with hh | hh
    · rw [← hH1] at hh; exact hdlsA_there (ht.keep hX) h hh
    · rw [← hH2] at hh; exact hdlsA_there (hq.keep hX) h hh
  have HOK : Hid (∀ h ∈ H1 ++ H2, EntOk h.x) := fun h hh => by
    have : h.x ∈ (tl ++ kl).map Prod.fst := by
      rw [List.map_append, ← e1, ← e2, ← List.map_append]
      exact List.mem_map_of_mem hh
    obtain ⟨q, hq', e⟩ := List.mem_map.1 this
    rw [← e]
    exact hto q hq'
  have HSET : Hid (∀ X, Below w.heap.size w X → SetIs X) := fun X hX => hset.below hX
  obtain ⟨Z, hZ⟩ : ∃ Z, storeC bu gu (tl.map Prod.fst) (kl.map Prod.fst) = Z := ⟨_, rfl⟩
  rw [hZ]
  unfold storeC at hZ
  rw [← e1, ← e2, List.length_map, List.length_map, l1, l2, ← List.map_append] at hZ
  have HZ : Hid (_ = Z) := hZ
  clear hZ hW ht hq hto hH1 hH2 e1 e2 hset
  obtain ⟨tn, htn⟩ : ∃ n, tl.length = n := ⟨_, rfl⟩
  obtain ⟨kn, hkn⟩ : ∃ n, kl.length = n := ⟨_, rfl⟩
  rw [htn] at HW K0 l1 HSH HZ hl
  rw [hkn] at HW K0 l2 HSH HZ hk
  rw [htn, hkn]
  have HL1 : Hid (H1.length = tn) := l1
  have HL2 : Hid (H2.length = kn) := l2
  clear l1 l2 htn hkn
  by_cases c1 : bu < 0
  · have HR : Hid (3 = Z) := by have := HZ.out; rw [if_pos (by omega)] at this; exact this
    clear HZ HSH HTH HOK HSET
    go_enter Tryz.func48, Tryz.ntmps48
    go_wp2_with fail
    go_ret
    exact ⟨ret_int HR.out, HW.out ▸ K0.out.1⟩
  by_cases c1b : 1000000 < bu
  · have HR : Hid (3 = Z) := by have := HZ.out; rw [if_pos (by omega)] at this; exact this
    clear HZ HSH HTH HOK HSET
    go_enter Tryz.func48, Tryz.ntmps48
    go_wp2_with fail
    go_ret
    exact ⟨ret_int HR.out, HW.out ▸ K0.out.1⟩
  by_cases c2 : gu < 0
  · have HR : Hid (3 = Z) := by have := HZ.out; rw [if_pos (by omega)] at this; exact this
    clear HZ HSH HTH HOK HSET
    go_enter Tryz.func48, Tryz.ntmps48
    go_wp2_with fail
    go_ret
    exact ⟨ret_int HR.out, HW.out ▸ K0.out.1⟩
  by_cases c2b : bu < gu
  · have HR : Hid (3 = Z) := by have := HZ.out; rw [if_pos (by omega)] at this; exact this
    clear HZ HSH HTH HOK HSET
    go_enter Tryz.func48, Tryz.ntmps48
    go_wp2_with fail
    go_ret
    exact ⟨ret_int HR.out, HW.out ▸ K0.out.1⟩
  rw [if_neg (by omega)] at HZ
  have ew : IntKind.i64.wrap ((tn : Int) + (kn : Int)) = (tn : Int) + (kn : Int) := by
    unfold IntKind.wrap; simp [IntKind.signed, IntKind.bits]; omega
  by_cases c3 : 40 < tn + kn
  · have HR : Hid (2 = Z) := by have := HZ.out; rw [if_pos c3] at this; exact this
    have g3 : (40 : Int) < (tn : Int) + (kn : Int) := by omega
    clear HZ HSH HTH HOK HSET
    go_enter Tryz.func48, Tryz.ntmps48
    go_wp2_with fail
    go_ret
    exact ⟨ret_int HR.out, HW.out ▸ K0.out.1⟩
  have HZ2 : Hid ((if faultE ((H1 ++ H2).map Hdl.x) ≠ 0 then faultE ((H1 ++ H2).map Hdl.x) else if dupE ((H1 ++ H2).map Hdl.x) = true then 6 else if bu < costsE ((H1 ++ H2).map Hdl.x) ∨ gu < costsE (H2.map Hdl.x) then 7 else 0) = Z) := by have := HZ.out; rw [if_neg c3] at this; exact this
  have g3 : ¬ (40 : Int) < (tn : Int) + (kn : Int) := by omega
  clear HZ
  go_enter Tryz.func48, Tryz.ntmps48
  go_wp2_with fail
  rw [← HW.out]
  refine HSH.out.mono ?_
  rintro r w1 ⟨⟨v1, v2, rfl, h2⟩, hb1⟩
  obtain ⟨a1, k1, rfl, _⟩ := h2.a.form
  obtain ⟨a2, k2, rfl, _⟩ := h2.b.form
  rw [HL1.out, HL2.out] at h2 ⊢
  obtain ⟨V, hV⟩ : ∃ V, V = w1.alloc (.cells #[.slice a1 tn k1, .slice a2 kn k2] 184) := ⟨_, rfl⟩
  have HV : Hid (V = w1.alloc (.cells #[.slice a1 tn k1, .slice a2 kn k2] 184)) := hV
  obtain ⟨sh, hsh⟩ : ∃ sh, Hid (w1.heap.size = sh) := ⟨_, rfl⟩
  have HK : Hid (∀ X, Below V.heap.size V X → Below w.heap.size w X ∧ S4 X w.heap.size (.int .i64 bu) (.int .i64 gu) (.slice ta tn tc) (.slice ka kn kc) ∧ X.cell? ⟨sh, 0, none⟩ = some (.slice a1 tn k1) ∧ X.cell? ⟨sh, 1, none⟩ = some (.slice a2 kn k2) ∧ TwoP X W.heap.size (.slice a1 tn k1) (.slice a2 kn k2) H1 H2) := fun X hX => by
    have aV : Below w1.heap.size w1 V := by rw [hV]; exact (Below.refl _ _).alloc (Nat.le_refl _) _
    have b1 := K0.out.1.trans (hb1.mono K0.out.1.size)
    have bV := b1.trans (aV.mono b1.size)
    have hVs : w1.heap.size < V.heap.size := by rw [hV]; simp
    refine ⟨bV.trans (hX.mono bV.size), ((K0.out.2.keep hb1).keep aV).keep hX, ?_, ?_, (h2.below aV).below hX⟩
    · rw [← hsh.out, hX.cell (p := ⟨w1.heap.size, 0, none⟩) hVs, hV]; simp
    · rw [← hsh.out, hX.cell (p := ⟨w1.heap.size, 1, none⟩) hVs, hV]; simp
  clear hV h2 hb1 K0 HSH HW
  have h40 : tn + kn ≤ 40 := by omega
  have HALL : Hid (∀ X, Below V.heap.size V X → Calls Tryz.prog 106 #[.agg #[.slice a1 tn k1, .slice a2 kn k2]] X fun e w' => (∃ v, e = .returned v ∧ OwnP w' X.heap.size v (H1 ++ H2)) ∧ Below X.heap.size X w') := fun X hX => shAll_any X _ _ _ H1 H2 (HK.out X hX).2.2.2.2 (by rw [HL1.out, HL2.out]; omega)
  have HLN : Hid ((H1 ++ H2).length = tn + kn) := by show _ = _; rw [List.length_append, HL1.out, HL2.out]
  have q0 := (HK.out V (Below.refl _ _)).2.2.1
  have q1 := (HK.out V (Below.refl _ _)).2.2.2.1
  rw [HV.out, ← hsh.out] at q0 q1
  go_wp2_with fail
  rw [← HV.out]
  refine (HALL.out V (Below.refl _ _)).mono ?_
  rintro r w2 ⟨⟨v, rfl, ho⟩, hb2⟩
  obtain ⟨av, ac, rfl, _, hf⟩ := ho.form
  rw [HLN.out] at ho ⊢
  rw [hsh.out]
  have HC : Hid (∀ X, Below w2.heap.size w2 X → ∀ (k : Nat) h, (H1 ++ H2)[k]? = some h → ∃ g, av = some ⟨g, 0, none⟩ ∧ X.cell? ⟨g, k, none⟩ = some (.pointer (some ⟨h.b, h.o, none⟩))) := fun X hX k h hk => by
    rcases hf with e | ⟨g, e, _, hg, hc⟩
    · rw [e] at hk; simp at hk
    · exact ⟨g, e, by rw [hX.cell (p := ⟨g, k, none⟩) hg]; exact hc k h hk⟩
  have HB2 : Hid (Below V.heap.size V w2) := hb2
  clear q0 q1 hf ho hb2 HV hsh
  obtain ⟨n, hn⟩ : ∃ n, tn + kn = n := ⟨_, rfl⟩
  rw [hn] at HLN h40 ⊢
  clear hn
  obtain ⟨al, hal⟩ : ∃ al, H1 ++ H2 = al := ⟨_, rfl⟩
  have HSUB : Hid (∀ h ∈ H2, h ∈ al) := fun h hh => by rw [← hal]; exact List.mem_append_right _ hh
  have HAL : Hid (H1 ++ H2 = al) := hal
  rw [hal] at HTH HOK HZ2 HALL HLN HC
  clear hal
  go_wp2_with fail
  go_loopw [40] (fun i wr => ∃ k : Nat, k ≤ n ∧ i = .int .i64 k ∧ faultE (al.map Hdl.x) = faultE ((al.map Hdl.x).drop k) ∧ Below w2.heap.size w2 wr) (fun i _ => n - (intOf i).toNat)
  case atStart => exact ⟨0, Nat.zero_le _, rfl, rfl, Below.refl _ _⟩
  case round =>
    obtain ⟨k, hk', rfl, hs, hb⟩ := hrel
    have HS : Hid (faultE (al.map Hdl.x) = faultE ((al.map Hdl.x).drop k)) := hs
    clear hs
    have HBV : Hid (Below V.heap.size V wr) := HB2.out.trans (hb.mono HB2.out.size)
    by_cases hlt : k < n
    · obtain ⟨q, hr⟩ : ∃ r, al[k]? = some r := ⟨al[k]'(by have := HLN.out; omega), List.getElem?_eq_getElem _⟩
      obtain ⟨g', rfl, p⟩ := HC.out wr hb k q hr
      have hw := (HK.out wr HBV.out).1
      have hmem := List.mem_of_getElem? hr
      have PC := (HTH.out wr hw q hmem).cells
      have C : Hid (Calls Tryz.prog 107 #[.agg #[.string q.x.key, .int .i64 q.x.st, .slice q.r.ha q.x.hs.length q.r.hc, .slice q.r.ba q.x.bl.length q.r.bc, .int .i64 q.x.t, .int .i64 q.x.g, .int .i64 q.x.l, .int .i64 q.x.s, .int .i64 q.x.e, .bool q.x.b1, .bool q.x.b2, .slice q.r.ta q.x.ts.length q.r.tc, .int .i64 q.x.pins]] wr fun r w' => r = .returned (.int .i64 (entC q.x)) ∧ Below wr.heap.size wr w') := implEntry_h wr q (HSET.out wr hw) (HOK.out q hmem) (HTH.out wr hw q hmem)
      have HD : Hid (faultE (al.map Hdl.x) = if entC q.x ≠ 0 then entC q.x else faultE ((al.map Hdl.x).drop (k + 1))) := by show _ = _; rw [HS.out, faultE_dropH hr]
      have g : (k : Int) < n := by omega
      have g0 : (0 : Int) ≤ k := by omega
      have HB : Hid (Below w2.heap.size w2 wr) := hb
      have p0 := PC.1
      have p1 := PC.2.1
      have p2 := PC.2.2.1
      have p3 := PC.2.2.2.1
      have p4 := PC.2.2.2.2.1
      have p5 := PC.2.2.2.2.2.1
      have p6 := PC.2.2.2.2.2.2.1
      have p7 := PC.2.2.2.2.2.2.2.1
      have p8 := PC.2.2.2.2.2.2.2.2.1
      have p9 := PC.2.2.2.2.2.2.2.2.2.1
      have p10 := PC.2.2.2.2.2.2.2.2.2.2.1
      have p11 := PC.2.2.2.2.2.2.2.2.2.2.2.1
      have p12 := PC.2.2.2.2.2.2.2.2.2.2.2.2
      clear PC hr HS hb hw hmem
      generalize entC q.x = ec at *
      go_wp2_with fail
      refine C.out.mono ?_
      rintro r w3 ⟨rfl, hb3⟩
      have HB3 : Hid (Below w2.heap.size w2 w3) := HB.out.trans (hb3.mono HB.out.size)
      clear hb3 C HB p p0 p1 p2 p3 p4 p5 p6 p7 p8 p9 p10 p11 p12
      by_cases ce : ec = 0
      · have HE : Hid (faultE (al.map Hdl.x) = faultE ((al.map Hdl.x).drop (k + 1))) := by show _ = _; rw [HD.out, if_neg (by simpa using ce)]
        clear HD
        subst ce
        go_wp2_with fail
        go_roundw
        case rel => exact ⟨k + 1, by omega, by go_num, HE.out, HB3.out⟩
        case measure => simp [intOf]; omega
      · have HE : Hid (ec = Z) := by
          show _ = _
          have := HZ2.out
          rw [HD.out, if_pos ce, if_pos ce] at this
          exact this
        clear HD
        have HBW : Hid (Below w.heap.size w w3) := (HK.out w3 (HB2.out.trans (HB3.out.mono HB2.out.size))).1
        go_wp2_with fail
        go_ret
        exact ⟨ret_int HE.out, HBW.out⟩
    · have HF0 : faultE (al.map Hdl.x) = 0 := by
        rw [HS.out, List.drop_of_length_le (by have := HLN.out; simp; omega), faultE]
      have HZ3 : Hid ((if dupE (al.map Hdl.x) = true then 6 else if bu < costsE (al.map Hdl.x) ∨ gu < costsE (H2.map Hdl.x) then 7 else 0) = Z) := by
        show _ = _
        have := HZ2.out
        rw [HF0] at this
        simpa using this
      have HEC : Hid (∀ q ∈ al, entC q.x = 0) := fun q hq => faultE_zero HF0 q.x (List.mem_map_of_mem hq)
      clear HS HF0 HZ2 HC HB2 hb
      have q0 := (HK.out wr HBV.out).2.2.1
      have q1 := (HK.out wr HBV.out).2.2.2.1
      go_wp2_with fail
      refine (HALL.out wr HBV.out).mono ?_
      rintro r w3 ⟨⟨v, rfl, ho⟩, hb3⟩
      have HB3 : Hid (Below V.heap.size V w3) := HBV.out.trans (hb3.mono HBV.out.size)
      have hw3 := (HK.out w3 HB3.out).1
      have C3 : Hid (Calls Tryz.prog 108 #[v, .func (.func 109) #[] #[]] w3 fun e w' => e = .returned (.bool (dupE (al.map Hdl.x))) ∧ Below w3.heap.size w3 w') := keyTwice_any w3 v _ al ho (by rw [HLN.out]; omega) (fun h hh => HTH.out w3 hw3 h hh) (fun h hh => (HOK.out h hh).key)
      clear ho hb3 hw3 q0 q1 HALL HBV
      go_wp2_with fail
      refine C3.out.mono ?_
      rintro r w4 ⟨rfl, hb4⟩
      have HB4 : Hid (Below V.heap.size V w4) := HB3.out.trans (hb4.mono HB3.out.size)
      clear hb4 C3 HB3
      have hw4 := (HK.out w4 HB4.out).1
      obtain ⟨hK1, hS4, hc0, hc1, h2⟩ := HK.out w4 HB4.out
      have HBW : Hid (Below w.heap.size w w4) := hw4
      cases hd : dupE (al.map Hdl.x)
      · rw [hd] at HZ3
        simp only [Bool.false_eq_true, if_false] at HZ3
        have cA : ∀ d os, Calls Tryz.prog 110 #[.agg #[.slice a1 tn k1, .slice a2 kn k2]] (grow (redrawn w4 d) os) fun e w'' => e = .returned (.int .i64 (costsE (al.map Hdl.x))) ∧ ∃ p : Regrown, w'' = grow (redrawn w4 p.d) p.os := fun d os => Calls.regrown_of (by
          have b := below_regrown w4 d os
          have bw := hw4.trans (b.mono hw4.size)
          have := shCost_any (grow (redrawn w4 d) os) _ _ _ H1 H2 (h2.below b) (HSET.out _ bw) (by rw [← List.length_append, HAL.out, HLN.out]; omega) (fun h hh => HTH.out _ bw h (HAL.out ▸ hh)) (fun h hh => HEC.out h (HAL.out ▸ hh))
          rw [HAL.out] at this
          exact this)
        have cK : ∀ d os, Calls Tryz.prog 111 #[.agg #[.slice a2 kn k2], .func (.func 112) #[] #[]] (grow (redrawn w4 d) os) fun e w'' => e = .returned (.int .i64 (costsE (H2.map Hdl.x))) ∧ ∃ p : Regrown, w'' = grow (redrawn w4 p.d) p.os := fun d os => Calls.regrown_of (by
          have b := below_regrown w4 d os
          have bw := hw4.trans (b.mono hw4.size)
          exact shSum_any (grow (redrawn w4 d) os) _ _ H2 (h2.b.below b) (HSET.out _ bw) (by rw [HL2.out]; have := HLN.out; rw [← HAL.out, List.length_append, HL1.out, HL2.out] at this; omega) (fun h hh => HTH.out _ bw h (HSUB.out h hh)) (fun h hh => HEC.out h (HSUB.out h hh)))
        have a0 := cell_regrown hS4.c0
        have a1' := cell_regrown hS4.c1
        have s0 := cell_regrown hc0
        have s1 := cell_regrown hc1
        clear hd HEC HTH HOK HSET HK hS4 hc0 hc1 h2 hK1 hw4 HB4 HSUB HAL HL1 HL2
        generalize costsE (al.map Hdl.x) = ca at *
        generalize costsE (H2.map Hdl.x) = ck at *
        have FIN : Hid (∀ w2', (∃ p : Regrown, w2' = grow (redrawn w4 p.d) p.os) → Below w.heap.size w w2') := fun w2' hw2 => by
          obtain ⟨⟨d, os⟩, rfl⟩ := hw2
          exact HBW.out.trans ((below_regrown w4 d os).mono HBW.out.size)
        by_cases d1 : bu < ca
        · have HE : Hid (7 = Z) := by have := HZ3.out; rw [if_pos (.inl d1)] at this; exact this
          have dd1 : decide (bu < ca) = true := decide_eq_true d1
          clear HZ3
          go_wp2_with fail
          refine wp_region_quiet_below (by kernel_rfl) (by kernel_rfl) ?_
          repeat (go_big_quiet_step (first | (go_at_call 110; with_reducible exact cA _ _) | (go_at_call 111; with_reducible exact cK _ _)))
          refine wpQuiet_nil ?_
          intro w5 hw5
          have hbb := FIN.out w5 hw5
          clear a0 a1' s0 s1 hw5 cA cK FIN
          go_wp2_with fail
          go_ret
          exact ⟨ret_int HE.out, hbb⟩
        have dd1 : decide (bu < ca) = false := decide_eq_false (by omega)
        by_cases d2 : gu < ck
        · have HE : Hid (7 = Z) := by have := HZ3.out; rw [if_pos (.inr d2)] at this; exact this
          have dd2 : decide (gu < ck) = true := decide_eq_true d2
          clear HZ3
          go_wp2_with fail
          refine wp_region_quiet_below (by kernel_rfl) (by kernel_rfl) ?_
          repeat (go_big_quiet_step (first | (go_at_call 110; with_reducible exact cA _ _) | (go_at_call 111; with_reducible exact cK _ _)))
          refine wpQuiet_nil ?_
          intro w5 hw5
          have hbb := FIN.out w5 hw5
          clear a0 a1' s0 s1 hw5 cA cK FIN
          go_wp2_with fail
          go_ret
          exact ⟨ret_int HE.out, hbb⟩
        · have HE : Hid (0 = Z) := by have := HZ3.out; rw [if_neg (by omega)] at this; exact this
          have dd2 : decide (gu < ck) = false := decide_eq_false (by omega)
          clear HZ3
          go_wp2_with fail
          refine wp_region_quiet_below (by kernel_rfl) (by kernel_rfl) ?_
          repeat (go_big_quiet_step (first | (go_at_call 110; with_reducible exact cA _ _) | (go_at_call 111; with_reducible exact cK _ _)))
          refine wpQuiet_nil ?_
          intro w5 hw5
          have hbb := FIN.out w5 hw5
          clear a0 a1' s0 s1 hw5 cA cK FIN
          go_wp2_with fail
          go_ret
          exact ⟨ret_int HE.out, hbb⟩
      · have HE : Hid (6 = Z) := by have := HZ3.out; rw [hd, if_pos rfl] at this; exact this
        clear HZ3 hd HEC HTH HOK HSET HK hS4 hc0 hc1 h2 hK1 hw4 HB4
        go_wp2_with fail
        go_ret
        exact ⟨ret_int HE.out, HBW.out⟩
end Go.Proofs.YtlbagfaiiileoaaGreatDoor
/-
  The law of NewStore.
-/
namespace Go.Proofs.YtlbagfaiiileoaaGreatDoor
open Go.ChangeShapes Go.WideShapes Go.ChangeAt Go.RowKit Go.Sort
set_option maxHeartbeats 8000000 in
theorem specNew_any (w : World) (bu gu : Int) :
    Calls Tryz.prog 83 #[.int .i64 bu, .int .i64 gu] w fun r w' => r = .returned (.agg #[.int .i64 (storeC bu gu [] []), .int .i64 (if storeC bu gu [] [] = 0 then bu else 0), .int .i64 (if storeC bu gu [] [] = 0 then gu else 0), .slice none 0 0, .slice none 0 0]) ∧ Below w.heap.size w w' := by
  have HF : Hid (∀ X, Below w.heap.size w X → Calls Tryz.prog 38 #[.agg #[.int .i64 bu, .int .i64 gu, .slice none 0 0, .slice none 0 0]] X fun r w' => r = .returned (.int .i64 (storeC bu gu [] [])) ∧ Below X.heap.size X w') := fun X hb => specSto_any X bu gu none none 0 0 [] [] (by simp) (by simp) (fun q hq => by simp at hq) (.inl rfl) (.inl rfl)
  obtain ⟨W, hW⟩ : ∃ W, W = (w.alloc (.cells #[.int .i64 0, .int .i64 0, .int .i64 0, .slice none 0 0, .slice none 0 0] 110)).alloc (.cells #[.int .i64 bu, .int .i64 gu, .slice none 0 0, .slice none 0 0] 44) := ⟨_, rfl⟩
  have HW : Hid (W = (w.alloc (.cells #[.int .i64 0, .int .i64 0, .int .i64 0, .slice none 0 0, .slice none 0 0] 110)).alloc (.cells #[.int .i64 bu, .int .i64 gu, .slice none 0 0, .slice none 0 0] 44)) := hW
  have K0 : Hid (Below w.heap.size w W ∧ S5 W w.heap.size (.int .i64 0) (.int .i64 0) (.int .i64 0) (.slice none 0 0) (.slice none 0 0) ∧ S4 W (w.heap.size + 1) (.int .i64 bu) (.int .i64 gu) (.slice none 0 0) (.slice none 0 0)) := by
    rw [hW]
    refine ⟨((Below.refl _ _).alloc (Nat.le_refl _) _).alloc (by simp) _, (S5.new w _ _ _ _ _ _).keep ((Below.refl _ _).alloc (Nat.le_refl _) _), ?_⟩
    have := S4.new (w.alloc (.cells #[.int .i64 0, .int .i64 0, .int .i64 0, .slice none 0 0, .slice none 0 0] 110)) (.int .i64 bu) (.int .i64 gu) (.slice none 0 0) (.slice none 0 0) 44
    simpa using this
  clear hW
  generalize storeC bu gu [] [] = c at *
  by_cases c0 : c = 0
  · subst c0
    rw [if_pos rfl, if_pos rfl]
    go_enter Tryz.func83, Tryz.ntmps83
    go_wp2_with fail
    rw [← HW.out]
    refine (HF.out _ K0.out.1).mono ?_
    rintro r w1 ⟨rfl, hb1⟩
    have K1 : Hid (Below w.heap.size w w1 ∧ S5 w1 w.heap.size (.int .i64 0) (.int .i64 0) (.int .i64 0) (.slice none 0 0) (.slice none 0 0) ∧ S4 w1 (w.heap.size + 1) (.int .i64 bu) (.int .i64 gu) (.slice none 0 0) (.slice none 0 0)) := ⟨K0.out.1.trans (hb1.mono K0.out.1.size), K0.out.2.1.keep hb1, K0.out.2.2.keep hb1⟩
    clear hb1 K0 HF HW
    obtain ⟨r0, r1, r2, r3, r4, rf, _⟩ := K1.out.2.1
    have rf0 := rf 0
    have rf1 := rf 1
    have rf2 := rf 2
    have rf3 := rf 3
    have rf4 := rf 4
    have s0 := K1.out.2.2.c0
    have s1 := K1.out.2.2.c1
    have s2 := K1.out.2.2.c2
    have s3 := K1.out.2.2.c3
    clear rf
    go_wp2_with fail
    refine bodyPost_ret (v := .agg #[.int .i64 0, .int .i64 bu, .int .i64 gu, .slice none 0 0, .slice none 0 0]) ?_ rfl ⟨rfl, ((((K1.out.1.setCell (by simp) _).setCell (by simp) _).setCell (by simp) _).setCell (by simp) _).setCell (by simp) _⟩
    simp [results, Tryz.results83, go_sem, r0, r1, r2, r3, r4]
  · rw [if_neg c0, if_neg c0]
    go_enter Tryz.func83, Tryz.ntmps83
    go_wp2_with fail
    rw [← HW.out]
    refine (HF.out _ K0.out.1).mono ?_
    rintro r w1 ⟨rfl, hb1⟩
    have K1 : Hid (Below w.heap.size w w1 ∧ S5 w1 w.heap.size (.int .i64 0) (.int .i64 0) (.int .i64 0) (.slice none 0 0) (.slice none 0 0)) := ⟨K0.out.1.trans (hb1.mono K0.out.1.size), K0.out.2.1.keep hb1⟩
    clear hb1 K0 HF HW
    obtain ⟨r0, r1, r2, r3, r4, rf, _⟩ := K1.out.2
    have rf0 := rf 0
    have rf1 := rf 1
    have rf2 := rf 2
    have rf3 := rf 3
    have rf4 := rf 4
    clear rf
    go_wp2_with fail
    refine bodyPost_ret (v := .agg #[.int .i64 c, .int .i64 0, .int .i64 0, .slice none 0 0, .slice none 0 0]) ?_ rfl ⟨rfl, ((((K1.out.1.setCell (by simp) _).setCell (by simp) _).setCell (by simp) _).setCell (by simp) _).setCell (by simp) _⟩
    simp [results, Tryz.results83, go_sem, r0, r1, r2, r3, r4]
set_option maxHeartbeats 8000000 in
theorem implNew_any (w : World) (bu gu : Int) (hset : SetIs w) :
    Calls Tryz.prog 61 #[.int .i64 bu, .int .i64 gu] w fun r w' => r = .returned (.agg #[.int .i64 (storeC bu gu [] []), .int .i64 (if storeC bu gu [] [] = 0 then bu else 0), .int .i64 (if storeC bu gu [] [] = 0 then gu else 0), .slice none 0 0, .slice none 0 0]) ∧ Below w.heap.size w w' := by
  have HF : Hid (∀ X, Below w.heap.size w X → Calls Tryz.prog 48 #[.agg #[.int .i64 bu, .int .i64 gu, .slice none 0 0, .slice none 0 0]] X fun r w' => r = .returned (.int .i64 (storeC bu gu [] [])) ∧ Below X.heap.size X w') := fun X hb => implSto_any X bu gu none none 0 0 [] [] (hset.below hb) (by simp) (by simp) (fun q hq => by simp at hq) (.inl rfl) (.inl rfl)
  obtain ⟨W, hW⟩ : ∃ W, W = (w.alloc (.cells #[.int .i64 0, .int .i64 0, .int .i64 0, .slice none 0 0, .slice none 0 0] 110)).alloc (.cells #[.int .i64 bu, .int .i64 gu, .slice none 0 0, .slice none 0 0] 44) := ⟨_, rfl⟩
  have HW : Hid (W = (w.alloc (.cells #[.int .i64 0, .int .i64 0, .int .i64 0, .slice none 0 0, .slice none 0 0] 110)).alloc (.cells #[.int .i64 bu, .int .i64 gu, .slice none 0 0, .slice none 0 0] 44)) := hW
  have K0 : Hid (Below w.heap.size w W ∧ S5 W w.heap.size (.int .i64 0) (.int .i64 0) (.int .i64 0) (.slice none 0 0) (.slice none 0 0) ∧ S4 W (w.heap.size + 1) (.int .i64 bu) (.int .i64 gu) (.slice none 0 0) (.slice none 0 0)) := by
    rw [hW]
    refine ⟨((Below.refl _ _).alloc (Nat.le_refl _) _).alloc (by simp) _, (S5.new w _ _ _ _ _ _).keep ((Below.refl _ _).alloc (Nat.le_refl _) _), ?_⟩
    have := S4.new (w.alloc (.cells #[.int .i64 0, .int .i64 0, .int .i64 0, .slice none 0 0, .slice none 0 0] 110)) (.int .i64 bu) (.int .i64 gu) (.slice none 0 0) (.slice none 0 0) 44
    simpa using this
  clear hW hset
  generalize storeC bu gu [] [] = c at *
  by_cases c0 : c = 0
  · subst c0
    rw [if_pos rfl, if_pos rfl]
    go_enter Tryz.func61, Tryz.ntmps61
    go_wp2_with fail
    rw [← HW.out]
    refine (HF.out _ K0.out.1).mono ?_
    rintro r w1 ⟨rfl, hb1⟩
    have K1 : Hid (Below w.heap.size w w1 ∧ S5 w1 w.heap.size (.int .i64 0) (.int .i64 0) (.int .i64 0) (.slice none 0 0) (.slice none 0 0) ∧ S4 w1 (w.heap.size + 1) (.int .i64 bu) (.int .i64 gu) (.slice none 0 0) (.slice none 0 0)) := ⟨K0.out.1.trans (hb1.mono K0.out.1.size), K0.out.2.1.keep hb1, K0.out.2.2.keep hb1⟩
    clear hb1 K0 HF HW
    obtain ⟨r0, r1, r2, r3, r4, rf, _⟩ := K1.out.2.1
    have rf0 := rf 0
    have rf1 := rf 1
    have rf2 := rf 2
    have rf3 := rf 3
    have rf4 := rf 4
    have s0 := K1.out.2.2.c0
    have s1 := K1.out.2.2.c1
    have s2 := K1.out.2.2.c2
    have s3 := K1.out.2.2.c3
    clear rf
    go_wp2_with fail
    refine bodyPost_ret (v := .agg #[.int .i64 0, .int .i64 bu, .int .i64 gu, .slice none 0 0, .slice none 0 0]) ?_ rfl ⟨rfl, ((((K1.out.1.setCell (by simp) _).setCell (by simp) _).setCell (by simp) _).setCell (by simp) _).setCell (by simp) _⟩
    simp [results, Tryz.results61, go_sem, r0, r1, r2, r3, r4]
  · rw [if_neg c0, if_neg c0]
    go_enter Tryz.func61, Tryz.ntmps61
    go_wp2_with fail
    rw [← HW.out]
    refine (HF.out _ K0.out.1).mono ?_
    rintro r w1 ⟨rfl, hb1⟩
    have K1 : Hid (Below w.heap.size w w1 ∧ S5 w1 w.heap.size (.int .i64 0) (.int .i64 0) (.int .i64 0) (.slice none 0 0) (.slice none 0 0)) := ⟨K0.out.1.trans (hb1.mono K0.out.1.size), K0.out.2.1.keep hb1⟩
    clear hb1 K0 HF HW
    obtain ⟨r0, r1, r2, r3, r4, rf, _⟩ := K1.out.2
    have rf0 := rf 0
    have rf1 := rf 1
    have rf2 := rf 2
    have rf3 := rf 3
    have rf4 := rf 4
    clear rf
    go_wp2_with fail
    refine bodyPost_ret (v := .agg #[.int .i64 c, .int .i64 0, .int .i64 0, .slice none 0 0, .slice none 0 0]) ?_ rfl ⟨rfl, ((((K1.out.1.setCell (by simp) _).setCell (by simp) _).setCell (by simp) _).setCell (by simp) _).setCell (by simp) _⟩
    simp [results, Tryz.results61, go_sem, r0, r1, r2, r3, r4]
set_option maxHeartbeats 2000000 in
theorem markEntS_nil (w : World) (k : Int) : Calls Tryz.prog 140 #[.slice none 0 0, .int .i64 k] w fun r w' => r = .returned (.int .i64 k) ∧ Below w.heap.size w w' := by
  go_enter Tryz.func140, Tryz.ntmps140
  go_wp2_with fail
  go_loop [1, 5] (fun x i => x = .int .i64 k ∧ i = .int .i64 0) (fun _ _ => 0)
  case atStart => exact ⟨rfl, rfl⟩
  case round =>
    obtain ⟨rfl, rfl⟩ := hrel
    go_wp2_with fail
    go_ret
    exact ⟨rfl, Below.refl _ _⟩
set_option maxHeartbeats 2000000 in
theorem markSto_nil (w : World) (b g : Int) : Calls Tryz.prog 71 #[.agg #[.int .i64 b, .int .i64 g, .slice none 0 0, .slice none 0 0], .int .i64 1] w fun r w' => r = .returned (.int .i64 1) ∧ Below w.heap.size w w' := by
  have HC : Hid (∀ X, Calls Tryz.prog 140 #[.slice none 0 0, .int .i64 1] X fun r w' => r = .returned (.int .i64 1) ∧ Below X.heap.size X w') := fun X => markEntS_nil X 1
  have K0 : Hid (Below w.heap.size w (w.alloc (.cells #[.int .i64 b, .int .i64 g, .slice none 0 0, .slice none 0 0] 44)) ∧ S4 (w.alloc (.cells #[.int .i64 b, .int .i64 g, .slice none 0 0, .slice none 0 0] 44)) w.heap.size (.int .i64 b) (.int .i64 g) (.slice none 0 0) (.slice none 0 0)) := ⟨(Below.refl _ _).alloc (Nat.le_refl _) _, S4.new w _ _ _ _ _⟩
  go_enter Tryz.func71, Tryz.ntmps71
  go_wp2_with fail
  refine (HC.out _).mono ?_
  rintro r w1 ⟨rfl, hb1⟩
  have B1 : Hid (Below w.heap.size w w1) := K0.out.1.trans (hb1.mono K0.out.1.size)
  have q3 := (K0.out.2.keep hb1).c3
  clear hb1 K0
  go_wp2_with fail
  refine (HC.out _).mono ?_
  rintro r w2 ⟨rfl, hb2⟩
  have B2 : Hid (Below w.heap.size w w2) := B1.out.trans (hb2.mono B1.out.size)
  clear hb2
  go_wp2_with fail
  go_ret
  exact ⟨rfl, B2.out⟩
set_option maxHeartbeats 2000000 in
theorem heldEntS_nil (w : World) (k : Int) : Calls Tryz.prog 194 #[.slice none 0 0, .int .i64 k] w fun r w' => r = .returned (.int .i64 k) ∧ Below w.heap.size w w' := by
  go_enter Tryz.func194, Tryz.ntmps194
  go_wp2_with fail
  go_loop [1, 5] (fun x i => x = .int .i64 k ∧ i = .int .i64 0) (fun _ _ => 0)
  case atStart => exact ⟨rfl, rfl⟩
  case round =>
    obtain ⟨rfl, rfl⟩ := hrel
    go_wp2_with fail
    go_ret
    exact ⟨rfl, Below.refl _ _⟩
set_option maxHeartbeats 2000000 in
theorem heldSto_nil (w : World) (b g : Int) : Calls Tryz.prog 130 #[.agg #[.int .i64 b, .int .i64 g, .slice none 0 0, .slice none 0 0], .int .i64 1] w fun r w' => r = .returned (.int .i64 1) ∧ Below w.heap.size w w' := by
  have HC : Hid (∀ X, Calls Tryz.prog 194 #[.slice none 0 0, .int .i64 1] X fun r w' => r = .returned (.int .i64 1) ∧ Below X.heap.size X w') := fun X => heldEntS_nil X 1
  have K0 : Hid (Below w.heap.size w (w.alloc (.cells #[.int .i64 b, .int .i64 g, .slice none 0 0, .slice none 0 0] 44)) ∧ S4 (w.alloc (.cells #[.int .i64 b, .int .i64 g, .slice none 0 0, .slice none 0 0] 44)) w.heap.size (.int .i64 b) (.int .i64 g) (.slice none 0 0) (.slice none 0 0)) := ⟨(Below.refl _ _).alloc (Nat.le_refl _) _, S4.new w _ _ _ _ _⟩
  go_enter Tryz.func130, Tryz.ntmps130
  go_wp2_with fail
  refine (HC.out _).mono ?_
  rintro r w1 ⟨rfl, hb1⟩
  have B1 : Hid (Below w.heap.size w w1) := K0.out.1.trans (hb1.mono K0.out.1.size)
  have q3 := (K0.out.2.keep hb1).c3
  clear hb1 K0
  go_wp2_with fail
  refine (HC.out _).mono ?_
  rintro r w2 ⟨rfl, hb2⟩
  have B2 : Hid (Below w.heap.size w w2) := B1.out.trans (hb2.mono B1.out.size)
  clear hb2
  go_wp2_with fail
  go_ret
  exact ⟨rfl, B2.out⟩
end Go.Proofs.YtlbagfaiiileoaaGreatDoor
/-
  Names that tell variants, on the model's side.
-/
namespace Go.Proofs.YtlbagfaiiileoaaGreatDoor
open Go.ChangeShapes Go.WideShapes Go.ChangeAt Go.RowKit
theorem nret_int {a b : Int} (h : a = b) : Ending.returned (.int .i64 a) = Ending.returned (.int .i64 b) := by rw [h]
def wordsA (ns : List ByteArray) : Bool := ns.all wordS
def namesC (ns : List ByteArray) : Int := if 4 < ns.length then 2 else if wordsA ns = true then 0 else 5
theorem namesC_many {ns : List ByteArray} (h : 4 < ns.length) : namesC ns = 2 := by rw [namesC, if_pos h]
theorem namesC_ok {ns : List ByteArray} (h : ¬ 4 < ns.length) (h2 : wordsA ns = true) : namesC ns = 0 := by rw [namesC, if_neg h, if_pos h2]
theorem namesC_bad {ns : List ByteArray} (h : ¬ 4 < ns.length) (h2 : wordsA ns = false) : namesC ns = 5 := by rw [namesC, if_neg h, if_neg (by rw [h2]; decide)]
theorem wordsA_not {ns : List ByteArray} {k : Nat} {x : ByteArray} (h : ns[k]? = some x) (hw : wordS x = false) : wordsA ns = false := by
  have hm := List.mem_of_getElem? h
  cases hc : wordsA ns
  · rfl
  · have := List.all_eq_true.1 hc x hm
    rw [hw] at this; cases this
theorem wordsA_of {ns : List ByteArray} (h : ∀ (k : Nat) x, ns[k]? = some x → wordS x = true) : wordsA ns = true := by
  refine List.all_eq_true.2 fun x hx => ?_
  obtain ⟨i, hi⟩ := List.getElem?_of_mem hx
  exact h i x hi
theorem wordsA_mem {ns : List ByteArray} (h : wordsA ns = true) {k : Nat} {x : ByteArray} (hx : ns[k]? = some x) : wordS x = true := List.all_eq_true.1 h x (List.mem_of_getElem? hx)
theorem names_zero {ns : List ByteArray} (h : namesC ns = 0) : ns.length ≤ 4 ∧ wordsA ns = true := by
  by_cases c : 4 < ns.length
  · rw [namesC_many c] at h; omega
  · cases hw : wordsA ns
    · rw [namesC_bad c hw] at h; omega
    · exact ⟨by omega, rfl⟩
set_option maxRecDepth 100000 in
set_option maxHeartbeats 4000000 in
theorem l5Names_any (w : World) (a : Option Addr) (cap : Nat) (ns : List ByteArray) (hn : ns.length ≤ 1048576) (hi : TIn w a ns) :
    Calls Tryz.prog 85 #[.slice a ns.length cap] w fun e w' => e = .returned (.int .i64 (namesC ns)) ∧ Below w.heap.size w w' := by
  have HI : Hid (TIn w a ns) := hi
  clear hi
  by_cases h4 : 4 < ns.length
  · have HE : Hid (namesC ns = 2) := namesC_many h4
    generalize ns.length = n at *
    have g : (4 : Int) < n := by omega
    go_enter Tryz.func85, Tryz.ntmps85
    go_wp2_with fail
    go_ret
    exact ⟨nret_int HE.out.symm, Below.refl _ _⟩
  have HBAD : Hid (wordsA ns = false → namesC ns = 5) := namesC_bad h4
  have HOK : Hid (wordsA ns = true → namesC ns = 0) := namesC_ok h4
  generalize hnn : ns.length = n at *
  have HN : Hid (ns.length = n) := hnn
  clear hnn
  have g : ¬ (4 : Int) < n := by omega
  go_enter Tryz.func85, Tryz.ntmps85
  go_wp2_with fail
  go_loopw [3] (fun i wr => ∃ k : Nat, k ≤ n ∧ i = .int .i64 k ∧ (∀ (j : Nat) x, j < k → ns[j]? = some x → wordS x = true) ∧ Below w.heap.size w wr) (fun i _ => n - (intOf i).toNat)
  case atStart => exact ⟨0, Nat.zero_le _, rfl, fun j x hj _ => absurd hj (by omega), Below.refl _ _⟩
  case round =>
    obtain ⟨k, hk, rfl, hw, hb⟩ := hrel
    have HW : Hid (∀ (j : Nat) x, j < k → ns[j]? = some x → wordS x = true) := hw
    clear hw
    by_cases hlt : k < n
    · obtain ⟨x, hx⟩ : ∃ r, ns[k]? = some r := ⟨ns[k]'(by have := HN.out; omega), List.getElem?_eq_getElem _⟩
      rcases HI.out with h | ⟨b, off, rfl, hat⟩
      · subst h; simp at hx
      have p1 := (hat.keep hb) k x hx
      have HX : Hid (ns[k]? = some x) := hx
      have C := specIsWord_any x wr
      have gk : (k : Int) < n := by omega
      clear hx hat
      by_cases hw : wordS x = true
      · rw [hw] at C
        have HWX : Hid (wordS x = true) := hw
        clear hw
        go_wp2_with fail
        refine C.mono ?_
        rintro e w2 ⟨rfl, rfl⟩
        go_wp2_with fail
        go_roundw
        case rel =>
          refine ⟨k + 1, by omega, by go_num, fun j y hj hy => ?_, hb⟩
          by_cases e : j = k
          · subst e
            rw [HX.out] at hy
            obtain rfl := Option.some.inj hy
            exact HWX.out
          · exact HW.out j y (by omega) hy
        case measure => simp [intOf]; omega
      · have hwf : wordS x = false := by simpa using hw
        rw [hwf] at C
        have HE : Hid (namesC ns = 5) := HBAD.out (wordsA_not HX.out hwf)
        clear hw hwf
        go_wp2_with fail
        refine C.mono ?_
        rintro e w2 ⟨rfl, rfl⟩
        go_wp2_with fail
        go_ret
        exact ⟨nret_int HE.out.symm, hb⟩
    · have HE : Hid (namesC ns = 0) := HOK.out (wordsA_of fun j x hx => HW.out j x (by have := (List.getElem?_eq_some_iff.1 hx).1; have := HN.out; omega) hx)
      go_wp2_with fail
      go_ret
      exact ⟨nret_int HE.out.symm, hb⟩
end Go.Proofs.YtlbagfaiiileoaaGreatDoor
/-
  Names that tell variants: the fault that the program finds.
-/
namespace Go.Proofs.YtlbagfaiiileoaaGreatDoor
open Go.ChangeShapes Go.WideShapes Go.ChangeAt Go.RowKit Go.Sort
set_option maxRecDepth 100000 in
set_option maxHeartbeats 4000000 in
theorem namesFault_any (w : World) (a : Option Addr) (cap : Nat) (ns : List ByteArray) (hn : ns.length ≤ 1048576) (hset : SetIs w) (hi : TIn w a ns) :
    Calls Tryz.prog 102 #[.slice a ns.length cap] w fun e w' => e = .returned (.int .i64 (namesC ns)) ∧ Below w.heap.size w w' := by
  have HI : Hid (TIn w a ns) := hi
  have HS : Hid (SetIs w) := hset
  clear hi hset
  by_cases h4 : 4 < ns.length
  · have HE : Hid (namesC ns = 2) := namesC_many h4
    generalize ns.length = n at *
    have g : (4 : Int) < n := by omega
    go_enter Tryz.func102, Tryz.ntmps102
    go_wp2_with fail
    go_ret
    exact ⟨nret_int HE.out.symm, Below.refl _ _⟩
  have HBAD : Hid (wordsA ns = false → namesC ns = 5) := namesC_bad h4
  have HOK : Hid (wordsA ns = true → namesC ns = 0) := namesC_ok h4
  generalize hnn : ns.length = n at *
  have HN : Hid (ns.length = n) := hnn
  clear hnn
  have g : ¬ (4 : Int) < n := by omega
  go_enter Tryz.func102, Tryz.ntmps102
  go_wp2_with fail
  go_loopw [10] (fun i wr => ∃ k : Nat, k ≤ n ∧ i = .int .i64 k ∧ (∀ (j : Nat) x, j < k → ns[j]? = some x → wordS x = true) ∧ Below w.heap.size w wr) (fun i _ => n - (intOf i).toNat)
  case atStart => exact ⟨0, Nat.zero_le _, rfl, fun j x hj _ => absurd hj (by omega), Below.refl _ _⟩
  case round =>
    obtain ⟨k, hk, rfl, hw, hb⟩ := hrel
    have HW : Hid (∀ (j : Nat) x, j < k → ns[j]? = some x → wordS x = true) := hw
    clear hw
    by_cases hlt : k < n
    · obtain ⟨x, hx⟩ : ∃ r, ns[k]? = some r := ⟨ns[k]'(by have := HN.out; omega), List.getElem?_eq_getElem _⟩
      rcases HI.out with h | ⟨b, off, rfl, hat⟩
      · subst h; simp at hx
      have p1 := (hat.keep hb) k x hx
      have HX : Hid (ns[k]? = some x) := hx
      have C := implIsWord_set x wr (HS.out.below hb)
      have gk : (k : Int) < n := by omega
      clear hx hat
      by_cases hw : wordS x = true
      · rw [hw] at C
        have HWX : Hid (wordS x = true) := hw
        clear hw
        go_wp2_with fail
        refine C.mono ?_
        rintro e w2 ⟨rfl, hb2⟩
        have HB2 : Hid (Below w.heap.size w w2) := hb.trans (hb2.mono hb.size)
        clear hb2
        go_wp2_with fail
        go_roundw
        case rel =>
          refine ⟨k + 1, by omega, by go_num, fun j y hj hy => ?_, HB2.out⟩
          by_cases e : j = k
          · subst e
            rw [HX.out] at hy
            obtain rfl := Option.some.inj hy
            exact HWX.out
          · exact HW.out j y (by omega) hy
        case measure => simp [intOf]; omega
      · have hwf : wordS x = false := by simpa using hw
        rw [hwf] at C
        have HE := HBAD.out (wordsA_not HX.out hwf)
        have HE' : Hid (namesC ns = 5) := HE
        clear hw hwf HE
        go_wp2_with fail
        refine C.mono ?_
        rintro e w2 ⟨rfl, hb2⟩
        have HB2 : Hid (Below w.heap.size w w2) := hb.trans (hb2.mono hb.size)
        clear hb2
        go_wp2_with fail
        go_ret
        exact ⟨nret_int HE'.out.symm, HB2.out⟩
    · have HE : Hid (namesC ns = 0) := HOK.out (wordsA_of fun j x hx => HW.out j x (by have := (List.getElem?_eq_some_iff.1 hx).1; have := HN.out; omega) hx)
      go_wp2_with fail
      go_ret
      exact ⟨nret_int HE.out.symm, hb⟩
end Go.Proofs.YtlbagfaiiileoaaGreatDoor
/-
  ConfigFault, by the model and by the program.
-/
namespace Go.Proofs.YtlbagfaiiileoaaGreatDoor
open Go.ChangeShapes Go.WideShapes Go.ChangeAt Go.RowKit Go.Sort
/-- The numbers of a config are within their bounds. -/
def cfgB (cb co cn ce cf ct cc : Int) : Bool := inW 0 cb co && timeB cn && inW 0 1000000 ce && inW 1 1000000 cf && inW 0 1000000 ct && inW 1 10 cc
/-- What ConfigFault answers. -/
def cfgC (cb cg co cn ce cf ct cc : Int) (ns : List ByteArray) (ls lc lt : Int) (r1 r2 r3 r4 r5 : Int) : Int :=
  if ¬ storeC cb cg [] [] = 0 then storeC cb cg [] [] else
  if cfgB cb co cn ce cf ct cc = false then 3 else
  if ¬ namesC ns = 0 then namesC ns else
  if ¬ lanesC ls lc lt = 0 then lanesC ls lc lt else rulesC r1 r2 r3 r4 r5
theorem f_field_sto (c b g : Int) (u v : Value) (w : World) : (Instr.field 110 (.agg #[.int .i64 c, .int .i64 b, .int .i64 g, u, v]) 0).run Tryz.prog w = .ok (.int .i64 c) w := by kernel_rfl
set_option maxRecDepth 100000 in
set_option maxHeartbeats 16000000 in
theorem specCfg_any (w : World) (cb cg co cn ce cf ct cc : Int) (na : Option Addr) (nc : Nat) (ns : List ByteArray) (ls lc lt : Int) (r1 r2 r3 r4 r5 : Int) (hl : ns.length ≤ 1048576) (hi : TIn w na ns) :
    Calls Tryz.prog 36 #[.agg #[.int .i64 cb, .int .i64 cg, .int .i64 co, .int .i64 cn, .int .i64 ce, .int .i64 cf, .int .i64 ct, .int .i64 cc, .slice na ns.length nc, .int .i64 ls, .int .i64 lc, .int .i64 lt, .int .i64 r1, .int .i64 r2, .int .i64 r3, .int .i64 r4, .int .i64 r5]] w fun r w' => r = .returned (.int .i64 (cfgC cb cg co cn ce cf ct cc ns ls lc lt r1 r2 r3 r4 r5)) ∧ Below w.heap.size w w' := by
  obtain ⟨W, hW⟩ : ∃ W, W = w.alloc (.cells #[.int .i64 cb, .int .i64 cg, .int .i64 co, .int .i64 cn, .int .i64 ce, .int .i64 cf, .int .i64 ct, .int .i64 cc, .slice na ns.length nc, .int .i64 ls, .int .i64 lc, .int .i64 lt, .int .i64 r1, .int .i64 r2, .int .i64 r3, .int .i64 r4, .int .i64 r5] 41) := ⟨_, rfl⟩
  have HW : Hid (W = w.alloc (.cells #[.int .i64 cb, .int .i64 cg, .int .i64 co, .int .i64 cn, .int .i64 ce, .int .i64 cf, .int .i64 ct, .int .i64 cc, .slice na ns.length nc, .int .i64 ls, .int .i64 lc, .int .i64 lt, .int .i64 r1, .int .i64 r2, .int .i64 r3, .int .i64 r4, .int .i64 r5] 41)) := hW
  have KW : Hid (Below w.heap.size w W ∧ At w.heap.size (w.heap.size + 1) (Bx w.heap.size [.int .i64 cb, .int .i64 cg, .int .i64 co, .int .i64 cn, .int .i64 ce, .int .i64 cf, .int .i64 ct, .int .i64 cc, .slice na ns.length nc, .int .i64 ls, .int .i64 lc, .int .i64 lt, .int .i64 r1, .int .i64 r2, .int .i64 r3, .int .i64 r4, .int .i64 r5]) W) := by rw [hW]; exact ⟨(Below.refl _ _).alloc (Nat.le_refl _) _, Bx.new _ [.int .i64 cb, .int .i64 cg, .int .i64 co, .int .i64 cn, .int .i64 ce, .int .i64 cf, .int .i64 ct, .int .i64 cc, .slice na ns.length nc, .int .i64 ls, .int .i64 lc, .int .i64 lt, .int .i64 r1, .int .i64 r2, .int .i64 r3, .int .i64 r4, .int .i64 r5] _⟩
  have CN : Hid (∀ X, Calls Tryz.prog 83 #[.int .i64 cb, .int .i64 cg] X fun r w' => r = .returned (.agg #[.int .i64 (storeC cb cg [] []), .int .i64 (if storeC cb cg [] [] = 0 then cb else 0), .int .i64 (if storeC cb cg [] [] = 0 then cg else 0), .slice none 0 0, .slice none 0 0]) ∧ Below X.heap.size X w') := fun X => specNew_any X cb cg
  have C1 : Hid (∀ x lo hi w, Calls Tryz.prog 84 #[.int .i64 x, .int .i64 lo, .int .i64 hi] w fun r w' => r = .returned (.bool (inW lo hi x)) ∧ w' = w) := l1In_w
  have C2 : Hid (∀ x w, Calls Tryz.prog 37 #[.int .i64 x] w fun r w' => r = .returned (.bool (timeB x)) ∧ w' = w) := l1Time_all
  have C3 : Hid (∀ X, Below w.heap.size w X → Calls Tryz.prog 85 #[.slice na ns.length nc] X fun e w' => e = .returned (.int .i64 (namesC ns)) ∧ Below X.heap.size X w') := fun X hX => l5Names_any X na nc ns hl (hi.keep hX)
  have C4 : Hid (∀ X, Calls Tryz.prog 86 #[.agg #[.int .i64 ls, .int .i64 lc, .int .i64 lt]] X fun r w' => r = .returned (.int .i64 (lanesC ls lc lt)) ∧ Below X.heap.size X w') := specLanes_any ls lc lt
  have C5 : Hid (∀ X, Calls Tryz.prog 87 #[.agg #[.int .i64 r1, .int .i64 r2, .int .i64 r3, .int .i64 r4, .int .i64 r5]] X fun r w' => r = .returned (.int .i64 (rulesC r1 r2 r3 r4 r5)) ∧ Below X.heap.size X w') := specRules_any r1 r2 r3 r4 r5
  obtain ⟨Z, hZ⟩ : ∃ Z, Z = cfgC cb cg co cn ce cf ct cc ns ls lc lt r1 r2 r3 r4 r5 := ⟨_, rfl⟩
  have E1 : Hid (¬ storeC cb cg [] [] = 0 → Z = storeC cb cg [] []) := fun h => by rw [hZ, cfgC, if_pos h]
  have E2 : Hid (storeC cb cg [] [] = 0 → cfgB cb co cn ce cf ct cc = false → Z = 3) := fun h h2 => by rw [hZ, cfgC, if_neg (by simp [h]), if_pos h2]
  have E3 : Hid (storeC cb cg [] [] = 0 → cfgB cb co cn ce cf ct cc = true → ¬ namesC ns = 0 → Z = namesC ns) := fun h h2 h3 => by rw [hZ, cfgC, if_neg (by simp [h]), if_neg (by simp [h2]), if_pos h3]
  have E4 : Hid (storeC cb cg [] [] = 0 → cfgB cb co cn ce cf ct cc = true → namesC ns = 0 → ¬ lanesC ls lc lt = 0 → Z = lanesC ls lc lt) := fun h h2 h3 h4 => by rw [hZ, cfgC, if_neg (by simp [h]), if_neg (by simp [h2]), if_neg (by simp [h3]), if_pos h4]
  have E5 : Hid (storeC cb cg [] [] = 0 → cfgB cb co cn ce cf ct cc = true → namesC ns = 0 → lanesC ls lc lt = 0 → Z = rulesC r1 r2 r3 r4 r5) := fun h h2 h3 h4 => by rw [hZ, cfgC, if_neg (by simp [h]), if_neg (by simp [h2]), if_neg (by simp [h3]), if_neg (by simp [h4])]
  rw [← hZ]
  clear hZ hW hl hi
  generalize storeC cb cg [] [] = sc at *
  generalize namesC ns = nf at *
  generalize ns.length = nn at *
  generalize lanesC ls lc lt = lf at *
  generalize rulesC r1 r2 r3 r4 r5 = rf at *
  go_enter Tryz.func36, Tryz.ntmps36
  go_wp2_with fail
  rw [← HW.out]
  refine (CN.out W).mono ?_
  rintro r w1 ⟨rfl, hb⟩
  clear CN HW
  have K1 : Hid (Below w.heap.size w w1 ∧ At w.heap.size (w.heap.size + 1) (Bx w.heap.size [.int .i64 cb, .int .i64 cg, .int .i64 co, .int .i64 cn, .int .i64 ce, .int .i64 cf, .int .i64 ct, .int .i64 cc, .slice na nn nc, .int .i64 ls, .int .i64 lc, .int .i64 lt, .int .i64 r1, .int .i64 r2, .int .i64 r3, .int .i64 r4, .int .i64 r5]) w1) := ⟨KW.out.1.trans (hb.mono KW.out.1.size), KW.out.2.keep hb⟩
  clear hb KW
  have hf := f_field_sto
  by_cases c0 : sc = 0
  · subst c0
    have p0 := K1.out.2.val.1 0 _ rfl
    have p1 := K1.out.2.val.1 1 _ rfl
    have p2 := K1.out.2.val.1 2 _ rfl
    have p3 := K1.out.2.val.1 3 _ rfl
    have p4 := K1.out.2.val.1 4 _ rfl
    have p5 := K1.out.2.val.1 5 _ rfl
    have p6 := K1.out.2.val.1 6 _ rfl
    have p7 := K1.out.2.val.1 7 _ rfl
    have p8 := K1.out.2.val.1 8 _ rfl
    have p9 := K1.out.2.val.1 9 _ rfl
    have p10 := K1.out.2.val.1 10 _ rfl
    have p11 := K1.out.2.val.1 11 _ rfl
    have p12 := K1.out.2.val.1 12 _ rfl
    have p13 := K1.out.2.val.1 13 _ rfl
    have p14 := K1.out.2.val.1 14 _ rfl
    have p15 := K1.out.2.val.1 15 _ rfl
    have p16 := K1.out.2.val.1 16 _ rfl
    go_wp2_with fail
    refine (C1.out co 0 cb _).mono ?_
    rintro r v ⟨rfl, rfl⟩
    cases h0 : inW 0 cb co
    · have HE := E2.out (by simp) (by simp [cfgB, h0])
      subst HE
      go_wp2_with fail
      go_ret
      exact ⟨rfl, K1.out.1⟩
    go_wp2_with fail
    refine (C2.out cn _).mono ?_
    rintro r v ⟨rfl, rfl⟩
    cases h1 : timeB cn
    · have HE := E2.out (by simp) (by simp [cfgB, h0, h1])
      subst HE
      go_wp2_with fail
      go_ret
      exact ⟨rfl, K1.out.1⟩
    go_wp2_with fail
    refine (C1.out ce 0 1000000 _).mono ?_
    rintro r v ⟨rfl, rfl⟩
    cases h2 : inW 0 1000000 ce
    · have HE := E2.out (by simp) (by simp [cfgB, h0, h1, h2])
      subst HE
      go_wp2_with fail
      go_ret
      exact ⟨rfl, K1.out.1⟩
    go_wp2_with fail
    refine (C1.out cf 1 1000000 _).mono ?_
    rintro r v ⟨rfl, rfl⟩
    cases h3 : inW 1 1000000 cf
    · have HE := E2.out (by simp) (by simp [cfgB, h0, h1, h2, h3])
      subst HE
      go_wp2_with fail
      go_ret
      exact ⟨rfl, K1.out.1⟩
    go_wp2_with fail
    refine (C1.out ct 0 1000000 _).mono ?_
    rintro r v ⟨rfl, rfl⟩
    cases h4 : inW 0 1000000 ct
    · have HE := E2.out (by simp) (by simp [cfgB, h0, h1, h2, h3, h4])
      subst HE
      go_wp2_with fail
      go_ret
      exact ⟨rfl, K1.out.1⟩
    go_wp2_with fail
    refine (C1.out cc 1 10 _).mono ?_
    rintro r v ⟨rfl, rfl⟩
    cases h5 : inW 1 10 cc
    · have HE := E2.out (by simp) (by simp [cfgB, h0, h1, h2, h3, h4, h5])
      subst HE
      go_wp2_with fail
      go_ret
      exact ⟨rfl, K1.out.1⟩
    go_wp2_with fail
    have HB := hidL (show cfgB cb co cn ce cf ct cc = true by simp [cfgB, h0, h1, h2, h3, h4, h5])
    clear h0 h1 h2 h3 h4 h5 E1 E2 C1 C2
    refine (C3.out _ K1.out.1).mono ?_
    rintro r w2 ⟨rfl, hb⟩
    clear C3 p0 p1 p2 p3 p4 p5 p6 p7 p8 p9 p10 p11 p12 p13 p14 p15 p16
    have K2 : Hid (Below w.heap.size w w2 ∧ At w.heap.size (w.heap.size + 1) (Bx w.heap.size [.int .i64 cb, .int .i64 cg, .int .i64 co, .int .i64 cn, .int .i64 ce, .int .i64 cf, .int .i64 ct, .int .i64 cc, .slice na nn nc, .int .i64 ls, .int .i64 lc, .int .i64 lt, .int .i64 r1, .int .i64 r2, .int .i64 r3, .int .i64 r4, .int .i64 r5]) w2) := ⟨K1.out.1.trans (hb.mono K1.out.1.size), K1.out.2.keep hb⟩
    clear hb K1
    by_cases c1 : nf = 0
    · subst c1
      have p0 := K2.out.2.val.1 0 _ rfl
      have p1 := K2.out.2.val.1 1 _ rfl
      have p2 := K2.out.2.val.1 2 _ rfl
      have p3 := K2.out.2.val.1 3 _ rfl
      have p4 := K2.out.2.val.1 4 _ rfl
      have p5 := K2.out.2.val.1 5 _ rfl
      have p6 := K2.out.2.val.1 6 _ rfl
      have p7 := K2.out.2.val.1 7 _ rfl
      have p8 := K2.out.2.val.1 8 _ rfl
      have p9 := K2.out.2.val.1 9 _ rfl
      have p10 := K2.out.2.val.1 10 _ rfl
      have p11 := K2.out.2.val.1 11 _ rfl
      have p12 := K2.out.2.val.1 12 _ rfl
      have p13 := K2.out.2.val.1 13 _ rfl
      have p14 := K2.out.2.val.1 14 _ rfl
      have p15 := K2.out.2.val.1 15 _ rfl
      have p16 := K2.out.2.val.1 16 _ rfl
      go_wp2_with fail
      refine (C4.out _).mono ?_
      rintro r w3 ⟨rfl, hb⟩
      clear C4 p0 p1 p2 p3 p4 p5 p6 p7 p8 p9 p10 p11 p12 p13 p14 p15 p16
      have K3 : Hid (Below w.heap.size w w3 ∧ At w.heap.size (w.heap.size + 1) (Bx w.heap.size [.int .i64 cb, .int .i64 cg, .int .i64 co, .int .i64 cn, .int .i64 ce, .int .i64 cf, .int .i64 ct, .int .i64 cc, .slice na nn nc, .int .i64 ls, .int .i64 lc, .int .i64 lt, .int .i64 r1, .int .i64 r2, .int .i64 r3, .int .i64 r4, .int .i64 r5]) w3) := ⟨K2.out.1.trans (hb.mono K2.out.1.size), K2.out.2.keep hb⟩
      clear hb K2
      by_cases c2 : lf = 0
      · subst c2
        have p0 := K3.out.2.val.1 0 _ rfl
        have p1 := K3.out.2.val.1 1 _ rfl
        have p2 := K3.out.2.val.1 2 _ rfl
        have p3 := K3.out.2.val.1 3 _ rfl
        have p4 := K3.out.2.val.1 4 _ rfl
        have p5 := K3.out.2.val.1 5 _ rfl
        have p6 := K3.out.2.val.1 6 _ rfl
        have p7 := K3.out.2.val.1 7 _ rfl
        have p8 := K3.out.2.val.1 8 _ rfl
        have p9 := K3.out.2.val.1 9 _ rfl
        have p10 := K3.out.2.val.1 10 _ rfl
        have p11 := K3.out.2.val.1 11 _ rfl
        have p12 := K3.out.2.val.1 12 _ rfl
        have p13 := K3.out.2.val.1 13 _ rfl
        have p14 := K3.out.2.val.1 14 _ rfl
        have p15 := K3.out.2.val.1 15 _ rfl
        have p16 := K3.out.2.val.1 16 _ rfl
        go_wp2_with fail
        refine (C5.out _).mono ?_
        rintro r w4 ⟨rfl, hb⟩
        clear C5 p0 p1 p2 p3 p4 p5 p6 p7 p8 p9 p10 p11 p12 p13 p14 p15 p16
        have K4 : Hid (Below w.heap.size w w4 ∧ At w.heap.size (w.heap.size + 1) (Bx w.heap.size [.int .i64 cb, .int .i64 cg, .int .i64 co, .int .i64 cn, .int .i64 ce, .int .i64 cf, .int .i64 ct, .int .i64 cc, .slice na nn nc, .int .i64 ls, .int .i64 lc, .int .i64 lt, .int .i64 r1, .int .i64 r2, .int .i64 r3, .int .i64 r4, .int .i64 r5]) w4) := ⟨K3.out.1.trans (hb.mono K3.out.1.size), K3.out.2.keep hb⟩
        clear hb K3
        have HE := E5.out (by simp) HB.out (by simp) (by simp)
        subst HE
        go_wp2_with fail
        go_ret
        exact ⟨rfl, K4.out.1⟩
      · have HE := E4.out (by simp) HB.out (by simp) c2
        subst HE
        go_wp2_with fail
        go_ret
        exact ⟨rfl, K3.out.1⟩
    · have HE := E3.out (by simp) HB.out c1
      subst HE
      go_wp2_with fail
      go_ret
      exact ⟨rfl, K2.out.1⟩
  · have HE := E1.out c0
    subst HE
    go_wp2_with fail
    go_ret
    exact ⟨rfl, K1.out.1⟩
set_option maxRecDepth 100000 in
set_option maxHeartbeats 16000000 in
theorem cfgBounds_any (w : World) (cb cg co cn ce cf ct cc : Int) (v8 : Value) (ls lc lt : Int) (r1 r2 r3 r4 r5 : Int) :
    Calls Tryz.prog 101 #[.agg #[.int .i64 cb, .int .i64 cg, .int .i64 co, .int .i64 cn, .int .i64 ce, .int .i64 cf, .int .i64 ct, .int .i64 cc, v8, .int .i64 ls, .int .i64 lc, .int .i64 lt, .int .i64 r1, .int .i64 r2, .int .i64 r3, .int .i64 r4, .int .i64 r5]] w fun r w' => r = .returned (.bool (cfgB cb co cn ce cf ct cc)) ∧ Below w.heap.size w w' := by
  have C1 : Hid (∀ x lo hi w, Calls Tryz.prog 47 #[.int .i64 x, .int .i64 lo, .int .i64 hi] w fun r w' => r = .returned (.bool (inW lo hi x)) ∧ w' = w) := isWithin_all
  have C2 : Hid (∀ x w, Calls Tryz.prog 46 #[.int .i64 x] w fun r w' => r = .returned (.bool (timeB x)) ∧ w' = w) := isTime_all
  have HB : Hid (Below w.heap.size w (w.alloc (.cells #[.int .i64 cb, .int .i64 cg, .int .i64 co, .int .i64 cn, .int .i64 ce, .int .i64 cf, .int .i64 ct, .int .i64 cc, v8, .int .i64 ls, .int .i64 lc, .int .i64 lt, .int .i64 r1, .int .i64 r2, .int .i64 r3, .int .i64 r4, .int .i64 r5] 41))) := (Below.refl _ _).alloc (Nat.le_refl _) _
  obtain ⟨Z, hZ⟩ : ∃ Z, Z = cfgB cb co cn ce cf ct cc := ⟨_, rfl⟩
  rw [← hZ]
  have EZ : Hid (Z = cfgB cb co cn ce cf ct cc) := hZ
  clear hZ
  go_enter Tryz.func101, Tryz.ntmps101
  go_wp2_with fail
  refine (C1.out co 0 cb _).mono ?_
  rintro r v ⟨rfl, rfl⟩
  cases h0 : inW 0 cb co
  · have HE : Z = false := by rw [EZ.out]; simp [cfgB, h0]
    subst HE
    go_wp2_with fail
    go_ret
    exact ⟨rfl, HB.out⟩
  go_wp2_with fail
  refine (C2.out cn _).mono ?_
  rintro r v ⟨rfl, rfl⟩
  cases h1 : timeB cn
  · have HE : Z = false := by rw [EZ.out]; simp [cfgB, h0, h1]
    subst HE
    go_wp2_with fail
    go_ret
    exact ⟨rfl, HB.out⟩
  go_wp2_with fail
  refine (C1.out ce 0 1000000 _).mono ?_
  rintro r v ⟨rfl, rfl⟩
  cases h2 : inW 0 1000000 ce
  · have HE : Z = false := by rw [EZ.out]; simp [cfgB, h0, h1, h2]
    subst HE
    go_wp2_with fail
    go_ret
    exact ⟨rfl, HB.out⟩
  go_wp2_with fail
  refine (C1.out cf 1 1000000 _).mono ?_
  rintro r v ⟨rfl, rfl⟩
  cases h3 : inW 1 1000000 cf
  · have HE : Z = false := by rw [EZ.out]; simp [cfgB, h0, h1, h2, h3]
    subst HE
    go_wp2_with fail
    go_ret
    exact ⟨rfl, HB.out⟩
  go_wp2_with fail
  refine (C1.out ct 0 1000000 _).mono ?_
  rintro r v ⟨rfl, rfl⟩
  cases h4 : inW 0 1000000 ct
  · have HE : Z = false := by rw [EZ.out]; simp [cfgB, h0, h1, h2, h3, h4]
    subst HE
    go_wp2_with fail
    go_ret
    exact ⟨rfl, HB.out⟩
  go_wp2_with fail
  refine (C1.out cc 1 10 _).mono ?_
  rintro r v ⟨rfl, rfl⟩
  cases h5 : inW 1 10 cc
  · have HE : Z = false := by rw [EZ.out]; simp [cfgB, h0, h1, h2, h3, h4, h5]
    subst HE
    go_wp2_with fail
    go_ret
    exact ⟨rfl, HB.out⟩
  have HE : Z = true := by rw [EZ.out]; simp [cfgB, h0, h1, h2, h3, h4, h5]
  subst HE
  go_wp2_with fail
  go_ret
  exact ⟨rfl, HB.out⟩
set_option maxRecDepth 100000 in
set_option maxHeartbeats 16000000 in
theorem implCfg_any (w : World) (cb cg co cn ce cf ct cc : Int) (na : Option Addr) (nc : Nat) (ns : List ByteArray) (ls lc lt : Int) (r1 r2 r3 r4 r5 : Int) (hl : ns.length ≤ 1048576) (hset : SetIs w) (hi : TIn w na ns) :
    Calls Tryz.prog 45 #[.agg #[.int .i64 cb, .int .i64 cg, .int .i64 co, .int .i64 cn, .int .i64 ce, .int .i64 cf, .int .i64 ct, .int .i64 cc, .slice na ns.length nc, .int .i64 ls, .int .i64 lc, .int .i64 lt, .int .i64 r1, .int .i64 r2, .int .i64 r3, .int .i64 r4, .int .i64 r5]] w fun r w' => r = .returned (.int .i64 (cfgC cb cg co cn ce cf ct cc ns ls lc lt r1 r2 r3 r4 r5)) ∧ Below w.heap.size w w' := by
  obtain ⟨W, hW⟩ : ∃ W, W = w.alloc (.cells #[.int .i64 cb, .int .i64 cg, .int .i64 co, .int .i64 cn, .int .i64 ce, .int .i64 cf, .int .i64 ct, .int .i64 cc, .slice na ns.length nc, .int .i64 ls, .int .i64 lc, .int .i64 lt, .int .i64 r1, .int .i64 r2, .int .i64 r3, .int .i64 r4, .int .i64 r5] 41) := ⟨_, rfl⟩
  have HW : Hid (W = w.alloc (.cells #[.int .i64 cb, .int .i64 cg, .int .i64 co, .int .i64 cn, .int .i64 ce, .int .i64 cf, .int .i64 ct, .int .i64 cc, .slice na ns.length nc, .int .i64 ls, .int .i64 lc, .int .i64 lt, .int .i64 r1, .int .i64 r2, .int .i64 r3, .int .i64 r4, .int .i64 r5] 41)) := hW
  have KW : Hid (Below w.heap.size w W ∧ At w.heap.size (w.heap.size + 1) (Bx w.heap.size [.int .i64 cb, .int .i64 cg, .int .i64 co, .int .i64 cn, .int .i64 ce, .int .i64 cf, .int .i64 ct, .int .i64 cc, .slice na ns.length nc, .int .i64 ls, .int .i64 lc, .int .i64 lt, .int .i64 r1, .int .i64 r2, .int .i64 r3, .int .i64 r4, .int .i64 r5]) W) := by rw [hW]; exact ⟨(Below.refl _ _).alloc (Nat.le_refl _) _, Bx.new _ [.int .i64 cb, .int .i64 cg, .int .i64 co, .int .i64 cn, .int .i64 ce, .int .i64 cf, .int .i64 ct, .int .i64 cc, .slice na ns.length nc, .int .i64 ls, .int .i64 lc, .int .i64 lt, .int .i64 r1, .int .i64 r2, .int .i64 r3, .int .i64 r4, .int .i64 r5] _⟩
  have CN : Hid (∀ X, Below w.heap.size w X → Calls Tryz.prog 61 #[.int .i64 cb, .int .i64 cg] X fun r w' => r = .returned (.agg #[.int .i64 (storeC cb cg [] []), .int .i64 (if storeC cb cg [] [] = 0 then cb else 0), .int .i64 (if storeC cb cg [] [] = 0 then cg else 0), .slice none 0 0, .slice none 0 0]) ∧ Below X.heap.size X w') := fun X hX => implNew_any X cb cg (hset.below hX)
  have C1 : Hid (∀ X, Calls Tryz.prog 101 #[.agg #[.int .i64 cb, .int .i64 cg, .int .i64 co, .int .i64 cn, .int .i64 ce, .int .i64 cf, .int .i64 ct, .int .i64 cc, .slice na ns.length nc, .int .i64 ls, .int .i64 lc, .int .i64 lt, .int .i64 r1, .int .i64 r2, .int .i64 r3, .int .i64 r4, .int .i64 r5]] X fun r w' => r = .returned (.bool (cfgB cb co cn ce cf ct cc)) ∧ Below X.heap.size X w') := fun X => cfgBounds_any X cb cg co cn ce cf ct cc _ ls lc lt r1 r2 r3 r4 r5
  have C3 : Hid (∀ X, Below w.heap.size w X → Calls Tryz.prog 102 #[.slice na ns.length nc] X fun e w' => e = .returned (.int .i64 (namesC ns)) ∧ Below X.heap.size X w') := fun X hX => namesFault_any X na nc ns hl (hset.below hX) (hi.keep hX)
  clear hset
  have C4 : Hid (∀ X, Calls Tryz.prog 103 #[.agg #[.int .i64 ls, .int .i64 lc, .int .i64 lt]] X fun r w' => r = .returned (.int .i64 (lanesC ls lc lt)) ∧ Below X.heap.size X w') := implLanes_any ls lc lt
  have C5 : Hid (∀ X, Calls Tryz.prog 104 #[.agg #[.int .i64 r1, .int .i64 r2, .int .i64 r3, .int .i64 r4, .int .i64 r5]] X fun r w' => r = .returned (.int .i64 (rulesC r1 r2 r3 r4 r5)) ∧ Below X.heap.size X w') := implRules_any r1 r2 r3 r4 r5
  obtain ⟨Z, hZ⟩ : ∃ Z, Z = cfgC cb cg co cn ce cf ct cc ns ls lc lt r1 r2 r3 r4 r5 := ⟨_, rfl⟩
  have E1 : Hid (¬ storeC cb cg [] [] = 0 → Z = storeC cb cg [] []) := fun h => by rw [hZ, cfgC, if_pos h]
  have E2 : Hid (storeC cb cg [] [] = 0 → cfgB cb co cn ce cf ct cc = false → Z = 3) := fun h h2 => by rw [hZ, cfgC, if_neg (by simp [h]), if_pos h2]
  have E3 : Hid (storeC cb cg [] [] = 0 → cfgB cb co cn ce cf ct cc = true → ¬ namesC ns = 0 → Z = namesC ns) := fun h h2 h3 => by rw [hZ, cfgC, if_neg (by simp [h]), if_neg (by simp [h2]), if_pos h3]
  have E4 : Hid (storeC cb cg [] [] = 0 → cfgB cb co cn ce cf ct cc = true → namesC ns = 0 → ¬ lanesC ls lc lt = 0 → Z = lanesC ls lc lt) := fun h h2 h3 h4 => by rw [hZ, cfgC, if_neg (by simp [h]), if_neg (by simp [h2]), if_neg (by simp [h3]), if_pos h4]
  have E5 : Hid (storeC cb cg [] [] = 0 → cfgB cb co cn ce cf ct cc = true → namesC ns = 0 → lanesC ls lc lt = 0 → Z = rulesC r1 r2 r3 r4 r5) := fun h h2 h3 h4 => by rw [hZ, cfgC, if_neg (by simp [h]), if_neg (by simp [h2]), if_neg (by simp [h3]), if_neg (by simp [h4])]
  rw [← hZ]
  clear hZ hW hl hi
  generalize storeC cb cg [] [] = sc at *
  generalize namesC ns = nf at *
  generalize ns.length = nn at *
  generalize lanesC ls lc lt = lf at *
  generalize rulesC r1 r2 r3 r4 r5 = rf at *
  generalize (if sc = 0 then cb else 0) = s1 at *
  generalize (if sc = 0 then cg else 0) = s2 at *
  go_enter Tryz.func45, Tryz.ntmps45
  go_wp2_with fail
  rw [← HW.out]
  refine (CN.out W KW.out.1).mono ?_
  rintro r w0 ⟨rfl, hb⟩
  clear CN HW
  have K0 : Hid (Below w.heap.size w w0 ∧ At w.heap.size (w.heap.size + 1) (Bx w.heap.size [.int .i64 cb, .int .i64 cg, .int .i64 co, .int .i64 cn, .int .i64 ce, .int .i64 cf, .int .i64 ct, .int .i64 cc, .slice na nn nc, .int .i64 ls, .int .i64 lc, .int .i64 lt, .int .i64 r1, .int .i64 r2, .int .i64 r3, .int .i64 r4, .int .i64 r5]) w0) := ⟨KW.out.1.trans (hb.mono KW.out.1.size), KW.out.2.keep hb⟩
  clear hb KW
  obtain ⟨w1, h1⟩ : ∃ V, V = w0.alloc (.cells #[.int .i64 sc, .int .i64 s1, .int .i64 s2, .slice none 0 0, .slice none 0 0] 110) := ⟨_, rfl⟩
  have H1 : Hid (w1 = w0.alloc (.cells #[.int .i64 sc, .int .i64 s1, .int .i64 s2, .slice none 0 0, .slice none 0 0] 110)) := h1
  have K1 : Hid (Below w.heap.size w w1 ∧ At w.heap.size (w.heap.size + 1) (Bx w.heap.size [.int .i64 cb, .int .i64 cg, .int .i64 co, .int .i64 cn, .int .i64 ce, .int .i64 cf, .int .i64 ct, .int .i64 cc, .slice na nn nc, .int .i64 ls, .int .i64 lc, .int .i64 lt, .int .i64 r1, .int .i64 r2, .int .i64 r3, .int .i64 r4, .int .i64 r5]) w1) := by rw [h1]; exact ⟨K0.out.1.alloc K0.out.1.size _, K0.out.2.al _⟩
  have M0 : w1.cell? ⟨w0.heap.size, 0, none⟩ = some (.int .i64 sc) := by rw [h1]; exact (Bx.new w0 [.int .i64 sc, .int .i64 s1, .int .i64 s2, .slice none 0 0, .slice none 0 0] _).val.1 0 _ rfl
  go_upto_region 2 with fail
  rw [← H1.out]
  clear H1 h1 K0
  by_cases c0 : sc = 0
  · subst c0
    have p0 := K1.out.2.val.1 0 _ rfl
    have p1 := K1.out.2.val.1 1 _ rfl
    have p2 := K1.out.2.val.1 2 _ rfl
    have p3 := K1.out.2.val.1 3 _ rfl
    have p4 := K1.out.2.val.1 4 _ rfl
    have p5 := K1.out.2.val.1 5 _ rfl
    have p6 := K1.out.2.val.1 6 _ rfl
    have p7 := K1.out.2.val.1 7 _ rfl
    have p8 := K1.out.2.val.1 8 _ rfl
    have p9 := K1.out.2.val.1 9 _ rfl
    have p10 := K1.out.2.val.1 10 _ rfl
    have p11 := K1.out.2.val.1 11 _ rfl
    have p12 := K1.out.2.val.1 12 _ rfl
    have p13 := K1.out.2.val.1 13 _ rfl
    have p14 := K1.out.2.val.1 14 _ rfl
    have p15 := K1.out.2.val.1 15 _ rfl
    have p16 := K1.out.2.val.1 16 _ rfl
    go_wp2_with fail
    clear p0 p1 p2 p3 p4 p5 p6 p7 p8 p9 p10 p11 p12 p13 p14 p15 p16
    refine (C1.out w1).mono ?_
    rintro r w5 ⟨rfl, hb⟩
    have K5 : Hid (Below w.heap.size w w5 ∧ At w.heap.size (w.heap.size + 1) (Bx w.heap.size [.int .i64 cb, .int .i64 cg, .int .i64 co, .int .i64 cn, .int .i64 ce, .int .i64 cf, .int .i64 ct, .int .i64 cc, .slice na nn nc, .int .i64 ls, .int .i64 lc, .int .i64 lt, .int .i64 r1, .int .i64 r2, .int .i64 r3, .int .i64 r4, .int .i64 r5]) w5) := ⟨K1.out.1.trans (hb.mono K1.out.1.size), K1.out.2.keep hb⟩
    clear hb K1
    cases hB : cfgB cb co cn ce cf ct cc
    · have HE := E2.out (by simp) hB
      subst HE
      go_wp2_with fail
      go_ret
      exact ⟨rfl, K5.out.1⟩
    have HB := hidL hB
    clear hB E1 E2 C1
    have p0 := K5.out.2.val.1 0 _ rfl
    have p1 := K5.out.2.val.1 1 _ rfl
    have p2 := K5.out.2.val.1 2 _ rfl
    have p3 := K5.out.2.val.1 3 _ rfl
    have p4 := K5.out.2.val.1 4 _ rfl
    have p5 := K5.out.2.val.1 5 _ rfl
    have p6 := K5.out.2.val.1 6 _ rfl
    have p7 := K5.out.2.val.1 7 _ rfl
    have p8 := K5.out.2.val.1 8 _ rfl
    have p9 := K5.out.2.val.1 9 _ rfl
    have p10 := K5.out.2.val.1 10 _ rfl
    have p11 := K5.out.2.val.1 11 _ rfl
    have p12 := K5.out.2.val.1 12 _ rfl
    have p13 := K5.out.2.val.1 13 _ rfl
    have p14 := K5.out.2.val.1 14 _ rfl
    have p15 := K5.out.2.val.1 15 _ rfl
    have p16 := K5.out.2.val.1 16 _ rfl
    go_wp2_with fail
    refine (C3.out _ K5.out.1).mono ?_
    rintro r w2 ⟨rfl, hb⟩
    clear C3 p0 p1 p2 p3 p4 p5 p6 p7 p8 p9 p10 p11 p12 p13 p14 p15 p16
    have K2 : Hid (Below w.heap.size w w2 ∧ At w.heap.size (w.heap.size + 1) (Bx w.heap.size [.int .i64 cb, .int .i64 cg, .int .i64 co, .int .i64 cn, .int .i64 ce, .int .i64 cf, .int .i64 ct, .int .i64 cc, .slice na nn nc, .int .i64 ls, .int .i64 lc, .int .i64 lt, .int .i64 r1, .int .i64 r2, .int .i64 r3, .int .i64 r4, .int .i64 r5]) w2) := ⟨K5.out.1.trans (hb.mono K5.out.1.size), K5.out.2.keep hb⟩
    clear hb K5
    by_cases c1 : nf = 0
    · subst c1
      have p0 := K2.out.2.val.1 0 _ rfl
      have p1 := K2.out.2.val.1 1 _ rfl
      have p2 := K2.out.2.val.1 2 _ rfl
      have p3 := K2.out.2.val.1 3 _ rfl
      have p4 := K2.out.2.val.1 4 _ rfl
      have p5 := K2.out.2.val.1 5 _ rfl
      have p6 := K2.out.2.val.1 6 _ rfl
      have p7 := K2.out.2.val.1 7 _ rfl
      have p8 := K2.out.2.val.1 8 _ rfl
      have p9 := K2.out.2.val.1 9 _ rfl
      have p10 := K2.out.2.val.1 10 _ rfl
      have p11 := K2.out.2.val.1 11 _ rfl
      have p12 := K2.out.2.val.1 12 _ rfl
      have p13 := K2.out.2.val.1 13 _ rfl
      have p14 := K2.out.2.val.1 14 _ rfl
      have p15 := K2.out.2.val.1 15 _ rfl
      have p16 := K2.out.2.val.1 16 _ rfl
      go_wp2_with fail
      refine (C4.out _).mono ?_
      rintro r w3 ⟨rfl, hb⟩
      clear C4 p0 p1 p2 p3 p4 p5 p6 p7 p8 p9 p10 p11 p12 p13 p14 p15 p16
      have K3 : Hid (Below w.heap.size w w3 ∧ At w.heap.size (w.heap.size + 1) (Bx w.heap.size [.int .i64 cb, .int .i64 cg, .int .i64 co, .int .i64 cn, .int .i64 ce, .int .i64 cf, .int .i64 ct, .int .i64 cc, .slice na nn nc, .int .i64 ls, .int .i64 lc, .int .i64 lt, .int .i64 r1, .int .i64 r2, .int .i64 r3, .int .i64 r4, .int .i64 r5]) w3) := ⟨K2.out.1.trans (hb.mono K2.out.1.size), K2.out.2.keep hb⟩
      clear hb K2
      by_cases c2 : lf = 0
      · subst c2
        have p0 := K3.out.2.val.1 0 _ rfl
        have p1 := K3.out.2.val.1 1 _ rfl
        have p2 := K3.out.2.val.1 2 _ rfl
        have p3 := K3.out.2.val.1 3 _ rfl
        have p4 := K3.out.2.val.1 4 _ rfl
        have p5 := K3.out.2.val.1 5 _ rfl
        have p6 := K3.out.2.val.1 6 _ rfl
        have p7 := K3.out.2.val.1 7 _ rfl
        have p8 := K3.out.2.val.1 8 _ rfl
        have p9 := K3.out.2.val.1 9 _ rfl
        have p10 := K3.out.2.val.1 10 _ rfl
        have p11 := K3.out.2.val.1 11 _ rfl
        have p12 := K3.out.2.val.1 12 _ rfl
        have p13 := K3.out.2.val.1 13 _ rfl
        have p14 := K3.out.2.val.1 14 _ rfl
        have p15 := K3.out.2.val.1 15 _ rfl
        have p16 := K3.out.2.val.1 16 _ rfl
        go_wp2_with fail
        refine (C5.out _).mono ?_
        rintro r w4 ⟨rfl, hb⟩
        clear C5 p0 p1 p2 p3 p4 p5 p6 p7 p8 p9 p10 p11 p12 p13 p14 p15 p16
        have K4 : Hid (Below w.heap.size w w4 ∧ At w.heap.size (w.heap.size + 1) (Bx w.heap.size [.int .i64 cb, .int .i64 cg, .int .i64 co, .int .i64 cn, .int .i64 ce, .int .i64 cf, .int .i64 ct, .int .i64 cc, .slice na nn nc, .int .i64 ls, .int .i64 lc, .int .i64 lt, .int .i64 r1, .int .i64 r2, .int .i64 r3, .int .i64 r4, .int .i64 r5]) w4) := ⟨K3.out.1.trans (hb.mono K3.out.1.size), K3.out.2.keep hb⟩
        clear hb K3
        have HE := E5.out (by simp) HB.out (by simp) (by simp)
        subst HE
        go_wp2_with fail
        go_ret
        exact ⟨rfl, K4.out.1⟩
      · have HE := E4.out (by simp) HB.out (by simp) c2
        subst HE
        go_wp2_with fail
        go_ret
        exact ⟨rfl, K3.out.1⟩
    · have HE := E3.out (by simp) HB.out c1
      subst HE
      go_wp2_with fail
      go_ret
      exact ⟨rfl, K2.out.1⟩
  · have HE := E1.out c0
    subst HE
    go_wp2_with fail
    go_ret
    exact ⟨rfl, K1.out.1⟩
end Go.Proofs.YtlbagfaiiileoaaGreatDoor
/-
  A region that draws its order, whose last operation waits for all others: what is held of the world is held behind each operation but that last one.
-/
namespace Go.Proofs.YtlbagfaiiileoaaGreatDoor
open Go Go.ChangeShapes Go.WideShapes Go.ChangeAt Go.RowKit
section
variable {P : Program} {ops : Array Oper} {Q : Exit → Act → World → Prop} {S : World → Prop} {m : Nat}
/-- Whatever may come up; behind it S is shown, but where it was operation m. -/
def butLast (P : Program) (ops : Array Oper) (Q : Exit → Act → World → Prop) (S : World → Prop) (m : Nat) : Nat → Array Bool → Act → World → Prop
  | 0, done, a, w => Region.ready .any ops done = [] ∧ Q .normal a w
  | n + 1, done, a, w => (Region.ready .any ops done = [] → Q .normal a w) ∧
      ∀ i ∈ Region.ready .any ops done, wpOp P ops Q i (fun a' w' => (i = m ∨ S w') ∧ butLast P ops Q S m n (done.setIfInBounds i true) a' w') a w
theorem butLast_any : ∀ (n : Nat) (done : Array Bool) (a : Act) (w : World), butLast P ops Q S m n done a w → wpAny P .any ops Q n done a w := by
  intro n
  induction n with
  | zero => intro done a w h; exact h
  | succ n ih => intro done a w h; exact ⟨h.1, fun i hi => wpOp_mono (fun a' w' k => ih _ a' w' k.2) (h.2 i hi)⟩
theorem ready_not_done {done : Array Bool} {i : Nat} (h : i ∈ Region.ready .any ops done) (k : done.getD i false = true) : False := by
  have q := (mem_ready.1 h).1
  rcases Nat.lt_or_ge i done.size with z | z
  · simp [z] at q k
    rw [q] at k
    cases k
  · simp [Array.getElem?_eq_none z] at k
/-- While operation i has not come up, one that waits for it cannot. -/
theorem waits_not {done : Array Bool} {i j : Nat} (hi : i ∈ Region.ready .any ops done) (hj : j ∈ Region.ready .any ops done) (hw : Region.waitsFor .any ops j i = true) : False := by
  obtain ⟨oj, hoj, e, he, hb, rfl⟩ := Region.waitsFor_spec hw
  obtain ⟨_, oj', hoj', hall⟩ := mem_ready.1 hj
  rw [hoj] at hoj'
  cases hoj'
  exact ready_not_done hi (hall e he hb)
/-- One that yields in every world that meets S may be taken first, if the last one waits for it. -/
theorem butLast_first {i : Nat} {oi : Oper} {v : Value} (hi : ops[i]? = some oi) (hsel : ∀ (j : Nat) (o : Oper) cs b, ops[j]? = some o → o.op ≠ .select cs b)
    (hw : Region.waitsFor .any ops m i = true) (hQ : ∀ c a w, Q (.panic c) (a.put oi.dst v) w → Q (.panic c) a w) :
    ∀ (n : Nat) (done : Array Bool) (a : Act) (w : World), (∀ j oj, ops[j]? = some oj → j ≠ i → done.getD j true = false → (∀ e ∈ oj.after, Region.binds .any e = true → e.on ≠ i) → oi.apart ops oj = true) →
      i ∈ Region.ready .any ops done → YieldsIf P ops S oi v a → S w → butLast P ops Q S m n (done.setIfInBounds i true) (a.put oi.dst v) w → butLast P ops Q S m (n + 1) done a w := by
  intro n
  induction n with
  | zero =>
    intro done a w _ hr hy hS H
    refine ⟨fun z => (by rw [z] at hr; cases hr), fun j hj => ?_⟩
    by_cases e : j = i
    · rw [e]; exact hy.wpOp hi hS ⟨.inr hS, H⟩
    · have k := ready_mono hj e
      rw [H.1] at k
      cases k
  | succ n ih =>
    intro done a w hap hr hy hS H
    refine ⟨fun z => (by rw [z] at hr; cases hr), fun j hj => ?_⟩
    by_cases e : j = i
    · rw [e]; exact hy.wpOp hi hS ⟨.inr hS, H⟩
    · have hjm : j ≠ m := fun q => waits_not hr hj (by rw [q]; exact hw)
      obtain ⟨hun, oj, hoj, hall⟩ := mem_ready.1 hj
      have hno : ∀ x ∈ oj.after, Region.binds .any x = true → x.on ≠ i := fun x hx hb q => ready_not_done hr (by have := hall x hx hb; rwa [q] at this)
      have step := wpOp_putIf hoj (hap j oj hoj e hun hno) (fun cs b => hsel i oi cs b hi) (fun cs b => hsel j oj cs b hoj) hQ hy (H.2 j (ready_mono hj e))
      refine wpOp_mono (fun a' w' k => ?_) step
      have hS' : S w' := k.2.1.resolve_left hjm
      refine ⟨.inr hS', ih (done.setIfInBounds j true) a' w' (fun c oc hc hci hcu hcn => hap c oc hc hci ?_ hcn) (ready_mono hr (Ne.symm e)) k.1 hS' ?_⟩
      · by_cases q : j = c
        · rw [← q]; exact hun
        · rwa [getD_set_ne true q] at hcu
      · rw [Array.setIfInBounds_comm _ _ e]
        exact k.2.2
theorem butLast_take {i : Nat} {oi : Oper} {v : Value} {n : Nat} {done : Array Bool} {a : Act} {w : World} (hi : ops[i]? = some oi) (hs : Region.noSelect ops = true)
    (hf : Region.free .any ops done i = true) (hr : (Region.ready .any ops done).contains i = true) (hw : Region.waitsFor .any ops m i = true)
    (hQ : ∀ c a w, Q (.panic c) (a.put oi.dst v) w → Q (.panic c) a w) (hy : YieldsIf P ops S oi v a) (hS : S w)
    (h : butLast P ops Q S m n (done.setIfInBounds i true) (a.put oi.dst v) w) : butLast P ops Q S m (n + 1) done a w :=
  butLast_first hi (Region.noSelect_spec hs) hw hQ n done a w (Region.free_spec hi hf) (by simpa using hr) hy hS h
/-- Only one may come up. -/
theorem butLast_one {i n : Nat} {o : Oper} {done : Array Bool} {a : Act} {w : World} (ho : ops[i]? = some o) (hr : Region.ready .any ops done = [i])
    (h : ∀ K : Act → World → Prop, (∀ a' w', (i = m ∨ S w') → butLast P ops Q S m n (done.setIfInBounds i true) a' w' → K a' w') → if Region.wanted o (yielded ops a.tmps) = true then Oper.wp P o a w K Q else K (a.put o.dst undef) w) :
    butLast P ops Q S m (n + 1) done a w := by
  refine ⟨fun z => (by rw [z] at hr; cases hr), fun j hj => ?_⟩
  rw [hr, List.mem_singleton] at hj
  rw [hj]
  exact wpOp_step ho fun K hK => h K fun a' w' h1 h2 => hK a' w' ⟨h1, h2⟩
theorem butLast_end {done : Array Bool} {a : Act} {w : World} {n : Nat} (hr : Region.ready .any ops done = []) (h : Q .normal a w) : butLast P ops Q S m n done a w := by
  cases n with
  | zero => exact ⟨hr, h⟩
  | succ n => exact ⟨fun _ => h, by rw [hr]; simp⟩
theorem wp_region_last (S : World → Prop) (m : Nat) {id : Nat} {a : Act} {w : World} (hm : P.follows .mixedOrders = true) (h : butLast P ops Q S m ops.size (Array.replicate ops.size false) a w.drew) : (Code.region id ops true).wp P Q a w :=
  wp_region_any hm (butLast_any _ _ _ _ h)
end
end Go.Proofs.YtlbagfaiiileoaaGreatDoor
/-
  Head lines that came in, opened.
-/
namespace Go.Proofs.YtlbagfaiiileoaaGreatDoor
open Go.ChangeShapes Go.WideShapes Go.ChangeAt Go.RowKit Go.Deep
theorem headerCells : Tryz.prog.cellsOf 314 = 2 := by kernel_rfl
theorem hOneS : Tryz.prog.cellsOf 9 = 1 := by kernel_rfl
theorem hdr_of {H : Type} {enc : TypeId × Value → H} {w : World} {base : Nat} {spare : Nat → Bool} {held : Bool} {fuel : Nat} {cs : List Value} {x : DataW H × List MemPlace}
    (h : DataW.trod enc Tryz.prog w base spare held fuel 314 cs = some x) : ∃ r : Hdr, cs = [.string r.name, .string r.value] ∧ r.name.size ≤ maxLen ∧ r.value.size ≤ maxLen := by
  obtain ⟨y0, y1, n, _, hl, h0, h2⟩ := trod_struct2 Tryz.underlying314 h
  rw [headerCells] at hl
  simp only [hOneS] at h0 h2
  obtain ⟨s0, e0, _, z0⟩ := DataW.trod_string Tryz.underlying9 h0
  obtain ⟨s2, e2, _, z2⟩ := DataW.trod_string Tryz.underlying9 h2
  match cs, hl with
  | [c0, c2], _ =>
    simp only [List.drop_zero, List.take_succ_cons, List.take_zero, List.drop_succ_cons, List.cons.injEq, and_true] at e0 e2
    exact ⟨⟨s0, s2⟩, by rw [e0, e2], z0, z2⟩
theorem open_headers {H : Type} {enc : TypeId × Value → H} {w : World} {base : Nat} {spare : Nat → Bool} {held : Bool} {fuel : Nat} {a : Option Addr} {len cap : Nat} {x : DataW H × List MemPlace}
    (h : DataW.trod enc Tryz.prog w base spare held fuel 147 [.slice a len cap] = some x) :
    ∃ l : List Hdr, l.length = len ∧ len ≤ maxLen ∧ SmallHdrs l ∧ (l = [] ∨ ∃ b off, a = some ⟨b, off, none⟩ ∧ HeadsAt w b off l) := by
  rcases open_slice Tryz.underlying147 h with ⟨hcs, _⟩ | ⟨A, len', cap', m, n, D, Pl, hcs, _, hl, hm, hmm, _, hel⟩
  · simp only [List.cons.injEq, Value.slice.injEq, and_true] at hcs
    obtain ⟨_, rfl, _⟩ := hcs
    exact ⟨[], rfl, by unfold maxLen; omega, fun i r hr => by simp at hr, .inl rfl⟩
  · simp only [List.cons.injEq, Value.slice.injEq, and_true] at hcs
    obtain ⟨rfl, rfl, rfl⟩ := hcs
    have hlm : len ≤ m := by rw [hmm]; split <;> omega
    have hrec : ∀ i, i < len → ∃ r : Hdr, w.cells? base (A.add (i * 2)) 2 = some [.string r.name, .string r.value] ∧ r.name.size ≤ maxLen ∧ r.value.size ≤ maxLen := by
      intro i hi
      obtain ⟨cs', hc, ht⟩ := hel i (by omega)
      rw [headerCells] at hc
      obtain ⟨r, rfl, z⟩ := hdr_of ht
      exact ⟨r, hc, z⟩
    obtain ⟨f, hf⟩ : ∃ f : Nat → Hdr, ∀ i, i < len → w.cells? base (A.add (i * 2)) 2 = some [.string (f i).name, .string (f i).value] ∧ (f i).name.size ≤ maxLen ∧ (f i).value.size ≤ maxLen := by
      classical
      refine ⟨fun i => if hi : i < len then (hrec i hi).choose else ⟨.empty, .empty⟩, fun i hi => ?_⟩
      simp only [dif_pos hi]
      exact (hrec i hi).choose_spec
    refine ⟨(List.range len).map f, by simp, by omega, ?_, ?_⟩
    · intro i r hr
      rw [List.getElem?_map] at hr
      obtain ⟨j, hj, rfl⟩ := Option.map_eq_some_iff.1 hr
      obtain ⟨hlt, rfl⟩ := List.getElem?_eq_some_iff.1 hj
      simp at hlt
      simpa using (hf i hlt).2
    · by_cases h0 : len = 0
      · subst h0; exact .inl rfl
      · obtain ⟨b, off, spot⟩ := A
        have cells : ∀ i, i < len → ∀ j, j < 2 → w.cell? ((⟨b, off, spot⟩ : Addr).add (i * 2 + j)) = ([.string (f i).name, .string (f i).value] : List Value)[j]? := by
          intro i hi j hj
          have c := (World.cells?_some (hf i hi).1).2.2 j hj
          rw [add_add] at c
          exact c
        have hs : spot = none := by
          have c := cells 0 (by omega) 0 (by omega)
          simp only [Nat.zero_mul, Nat.add_zero, List.getElem?_cons_zero] at c
          simpa [Addr.add] using World.cell?_spot c
        subst hs
        have hadd : ∀ i, (⟨b, off, none⟩ : Addr).add i = ⟨b, off + i, none⟩ := fun i => by unfold Addr.add; split <;> simp_all
        refine .inr ⟨b, off, rfl, fun i r hr => ?_⟩
        rw [List.getElem?_map] at hr
        obtain ⟨j, hj, rfl⟩ := Option.map_eq_some_iff.1 hr
        obtain ⟨hlt, rfl⟩ := List.getElem?_eq_some_iff.1 hj
        simp only [List.length_range] at hlt
        simp only [List.getElem_range]
        have q0 := cells i hlt 0 (by omega)
        have q1 := cells i hlt 1 (by omega)
        rw [hadd] at q0 q1
        exact ⟨by simpa using q0, by simpa [Nat.add_assoc] using q1⟩
end Go.Proofs.YtlbagfaiiileoaaGreatDoor
/-
  A request and a response that came in by value, opened.
-/
namespace Go.Proofs.YtlbagfaiiileoaaGreatDoor
open Go.ChangeShapes Go.WideShapes Go.ChangeAt Go.RowKit Go.Deep
theorem requestCells : Tryz.prog.cellsOf 149 = 4 := by kernel_rfl
theorem headsOne : Tryz.prog.cellsOf 147 = 1 := by kernel_rfl
theorem slice_cs {H : Type} {enc : TypeId × Value → H} {w : World} {base : Nat} {spare : Nat → Bool} {held : Bool} {fuel : Nat} {cs : List Value} {t e : TypeId} {x : DataW H × List MemPlace}
    (hu : Tryz.prog.underlying t = some (.slice e)) (h : DataW.trod enc Tryz.prog w base spare held fuel t cs = some x) : ∃ a len cap, cs = [.slice a len cap] := by
  rcases open_slice hu h with ⟨hcs, _⟩ | ⟨A, len', cap', m, n, D, Pl, hcs, _⟩
  · exact ⟨_, _, _, hcs⟩
  · exact ⟨_, _, _, hcs⟩
set_option maxRecDepth 100000 in
theorem open_request {H : Type} {enc : TypeId × Value → H} {w : World} {r : Reach} {b0 base : Nat} {spare : Nat → Bool} {held : Bool} {v : Value} {d : DataW H} {p : List MemPlace}
    (hv : Value.okWide Tryz.prog w r b0 149 v) (h : DataW.Trod enc Tryz.prog w base spare held 149 v d p) :
    ∃ (m h p : ByteArray) (a : Option Addr) (cap : Nat) (l : List Hdr), v = .agg #[.string m, .string h, .string p, .slice a l.length cap] ∧ m.size ≤ maxLen ∧ h.size ≤ maxLen ∧ p.size ≤ maxLen ∧ l.length ≤ maxLen ∧ SmallHdrs l ∧ (l = [] ∨ ∃ b off, a = some ⟨b, off, none⟩ ∧ HeadsAt w b off l) := by
  obtain ⟨cs, rfl, hsz⟩ := okWide_struct Tryz.underlying149 hv
  obtain ⟨fuel, hf0⟩ := h
  obtain ⟨xs, n, _, _, hl, hlen, hf⟩ := DataW.trod_struct Tryz.underlying149 hf0
  match xs, hlen with
  | [y0, y1, y2, y3], _ =>
    have h0 : DataW.trod enc Tryz.prog w base spare held n 9 (((Value.agg cs).cells.toList.drop 0).take (Tryz.prog.cellsOf 9)) = some y0 := hf 0 _ rfl
    have h1 : DataW.trod enc Tryz.prog w base spare held n 9 (((Value.agg cs).cells.toList.drop 1).take (Tryz.prog.cellsOf 9)) = some y1 := hf 1 _ rfl
    have h2 : DataW.trod enc Tryz.prog w base spare held n 9 (((Value.agg cs).cells.toList.drop 2).take (Tryz.prog.cellsOf 9)) = some y2 := hf 2 _ rfl
    have h3 : DataW.trod enc Tryz.prog w base spare held n 147 (((Value.agg cs).cells.toList.drop 3).take (Tryz.prog.cellsOf 147)) = some y3 := hf 3 _ rfl
    rw [hOneS] at h0 h1 h2
    rw [headsOne] at h3
    obtain ⟨s0, e0, _, z0⟩ := DataW.trod_string Tryz.underlying9 h0
    obtain ⟨s1, e1, _, z1⟩ := DataW.trod_string Tryz.underlying9 h1
    obtain ⟨s2, e2, _, z2⟩ := DataW.trod_string Tryz.underlying9 h2
    obtain ⟨a, len, cap, e3⟩ := slice_cs Tryz.underlying147 h3
    rw [e3] at h3
    obtain ⟨l, rfl, m3, s3, o3⟩ := open_headers h3
    refine ⟨s0, s1, s2, a, cap, l, ?_, z0, z1, z2, m3, s3, o3⟩
    have e : cs.toList = [.string s0, .string s1, .string s2, .slice a l.length cap] := by
      simp only [Value.cells] at e0 e1 e2 e3 hl
      rw [requestCells] at hl
      match hc : cs.toList, hl with
      | [c0, c1, c2, c3], _ =>
        rw [hc] at e0 e1 e2 e3
        simp only [List.drop_zero, List.take_succ_cons, List.take_zero, List.drop_succ_cons, List.cons.injEq, and_true] at e0 e1 e2 e3
        rw [e0, e1, e2, e3]
    congr 1
    exact Array.toList_inj.1 e
end Go.Proofs.YtlbagfaiiileoaaGreatDoor
/-
  A list of texts that came in, opened.
-/
namespace Go.Proofs.YtlbagfaiiileoaaGreatDoor
open Go.ChangeShapes Go.WideShapes Go.ChangeAt Go.RowKit Go.Deep
theorem textOne : Tryz.prog.cellsOf 9 = 1 := by kernel_rfl
theorem open_texts {H : Type} {enc : TypeId × Value → H} {w : World} {base : Nat} {spare : Nat → Bool} {held : Bool} {fuel : Nat} {a : Option Addr} {len cap : Nat} {x : DataW H × List MemPlace}
    (h : DataW.trod enc Tryz.prog w base spare held fuel 22 [.slice a len cap] = some x) : ∃ l : List ByteArray, l.length = len ∧ len ≤ maxLen ∧ (∀ x ∈ l, x.size ≤ maxLen) ∧ TIn w a l := by
  rcases open_slice Tryz.underlying22 h with ⟨hcs, _⟩ | ⟨A, len', cap', m, n, D, Pl, hcs, _, hl, hm, hmm, _, hel⟩
  · simp only [List.cons.injEq, Value.slice.injEq, and_true] at hcs
    obtain ⟨_, rfl, _⟩ := hcs
    exact ⟨[], rfl, by unfold maxLen; omega, (fun x hx => by cases hx), .inl rfl⟩
  · simp only [List.cons.injEq, Value.slice.injEq, and_true] at hcs
    obtain ⟨rfl, rfl, rfl⟩ := hcs
    have hlm : len ≤ m := by rw [hmm]; split <;> omega
    have hrec : ∀ i, i < len → ∃ r : ByteArray, w.cells? base (A.add (i * 1)) 1 = some [.string r] ∧ r.size ≤ maxLen := by
      intro i hi
      obtain ⟨cs', hc, ht⟩ := hel i (by omega)
      rw [textOne] at hc
      obtain ⟨r, e, _, z⟩ := DataW.trod_string Tryz.underlying9 ht
      exact ⟨r, by rw [hc, e], z⟩
    obtain ⟨f, hf⟩ : ∃ f : Nat → ByteArray, ∀ i, i < len → w.cells? base (A.add (i * 1)) 1 = some [.string (f i)] ∧ (f i).size ≤ maxLen := by
      classical
      refine ⟨fun i => if hi : i < len then (hrec i hi).choose else .empty, fun i hi => ?_⟩
      simp only [dif_pos hi]
      exact (hrec i hi).choose_spec
    refine ⟨(List.range len).map f, by simp, by omega, ?_, ?_⟩
    · intro x hx
      obtain ⟨i, hi, rfl⟩ := List.mem_map.1 hx
      exact (hf i (by simpa using hi)).2
    · by_cases h0 : len = 0
      · subst h0; exact .inl rfl
      · obtain ⟨b, off, spot⟩ := A
        have cells : ∀ i, i < len → w.cell? ((⟨b, off, spot⟩ : Addr).add i) = some (.string (f i)) := by
          intro i hi
          have c := (World.cells?_some (hf i hi).1).2.2 0 (by omega)
          rw [add_add] at c
          simpa using c
        have hs : spot = none := by
          have c := cells 0 (by omega)
          simpa [Addr.add] using World.cell?_spot c
        subst hs
        have hadd : ∀ i, (⟨b, off, none⟩ : Addr).add i = ⟨b, off + i, none⟩ := fun i => by unfold Addr.add; split <;> simp_all
        refine .inr ⟨b, off, rfl, fun i r hr => ?_⟩
        rw [List.getElem?_map] at hr
        obtain ⟨j, hj, rfl⟩ := Option.map_eq_some_iff.1 hr
        obtain ⟨hlt, rfl⟩ := List.getElem?_eq_some_iff.1 hj
        simp only [List.length_range] at hlt
        simp only [List.getElem_range]
        have q0 := cells i hlt
        rw [hadd] at q0
        exact q0
end Go.Proofs.YtlbagfaiiileoaaGreatDoor
/-
  A config that came in, opened.
-/
namespace Go.Proofs.YtlbagfaiiileoaaGreatDoor
open Go.ChangeShapes Go.WideShapes Go.ChangeAt Go.RowKit Go.Deep
theorem cfOneI : Tryz.prog.cellsOf 2 = 1 := by kernel_rfl
theorem cfOneT : Tryz.prog.cellsOf 22 = 1 := by kernel_rfl
theorem cCfg : Tryz.prog.cellsOf 28 = 17 := by kernel_rfl
theorem cellslan_cs : Tryz.prog.cellsOf 24 = 3 := by kernel_rfl
set_option maxRecDepth 100000 in
theorem lan_cs {H : Type} {enc : TypeId × Value → H} {w : World} {base : Nat} {spare : Nat → Bool} {held : Bool} {fuel : Nat} {cs : List Value} {x : DataW H × List MemPlace}
    (h : DataW.trod enc Tryz.prog w base spare held fuel 24 cs = some x) : ∃ (ls : Int) (lc : Int) (lt : Int), cs = [.int .i64 ls, .int .i64 lc, .int .i64 lt] := by
  obtain ⟨xs, n, _, _, hl, hlen, hf⟩ := DataW.trod_struct Tryz.underlying24 h
  rw [cellslan_cs] at hl
  match xs, hlen with
  | [y0, y1, y2], _ =>
    have h0 : DataW.trod enc Tryz.prog w base spare held n 2 ((cs.drop 0).take (Tryz.prog.cellsOf 2)) = some y0 := hf 0 _ rfl
    have h1 : DataW.trod enc Tryz.prog w base spare held n 2 ((cs.drop 1).take (Tryz.prog.cellsOf 2)) = some y1 := hf 1 _ rfl
    have h2 : DataW.trod enc Tryz.prog w base spare held n 2 ((cs.drop 2).take (Tryz.prog.cellsOf 2)) = some y2 := hf 2 _ rfl
    rw [cfOneI] at h0 h1 h2
    obtain ⟨ls, e0, _⟩ := DataW.trod_int Tryz.underlying2 h0
    obtain ⟨lc, e1, _⟩ := DataW.trod_int Tryz.underlying2 h1
    obtain ⟨lt, e2, _⟩ := DataW.trod_int Tryz.underlying2 h2
    match cs, hl with
    | [c0, c1, c2], _ =>
      simp only [List.drop_zero, List.take_succ_cons, List.take_zero, List.drop_succ_cons, List.cons.injEq, and_true] at e0 e1 e2
      exact ⟨ls, lc, lt, by rw [e0, e1, e2]⟩
theorem cellsrul_cs : Tryz.prog.cellsOf 26 = 5 := by kernel_rfl
set_option maxRecDepth 100000 in
theorem rul_cs {H : Type} {enc : TypeId × Value → H} {w : World} {base : Nat} {spare : Nat → Bool} {held : Bool} {fuel : Nat} {cs : List Value} {x : DataW H × List MemPlace}
    (h : DataW.trod enc Tryz.prog w base spare held fuel 26 cs = some x) : ∃ (r1 : Int) (r2 : Int) (r3 : Int) (r4 : Int) (r5 : Int), cs = [.int .i64 r1, .int .i64 r2, .int .i64 r3, .int .i64 r4, .int .i64 r5] := by
  obtain ⟨xs, n, _, _, hl, hlen, hf⟩ := DataW.trod_struct Tryz.underlying26 h
  rw [cellsrul_cs] at hl
  match xs, hlen with
  | [y0, y1, y2, y3, y4], _ =>
    have h0 : DataW.trod enc Tryz.prog w base spare held n 2 ((cs.drop 0).take (Tryz.prog.cellsOf 2)) = some y0 := hf 0 _ rfl
    have h1 : DataW.trod enc Tryz.prog w base spare held n 2 ((cs.drop 1).take (Tryz.prog.cellsOf 2)) = some y1 := hf 1 _ rfl
    have h2 : DataW.trod enc Tryz.prog w base spare held n 2 ((cs.drop 2).take (Tryz.prog.cellsOf 2)) = some y2 := hf 2 _ rfl
    have h3 : DataW.trod enc Tryz.prog w base spare held n 2 ((cs.drop 3).take (Tryz.prog.cellsOf 2)) = some y3 := hf 3 _ rfl
    have h4 : DataW.trod enc Tryz.prog w base spare held n 2 ((cs.drop 4).take (Tryz.prog.cellsOf 2)) = some y4 := hf 4 _ rfl
    rw [cfOneI] at h0 h1 h2 h3 h4
    obtain ⟨r1, e0, _⟩ := DataW.trod_int Tryz.underlying2 h0
    obtain ⟨r2, e1, _⟩ := DataW.trod_int Tryz.underlying2 h1
    obtain ⟨r3, e2, _⟩ := DataW.trod_int Tryz.underlying2 h2
    obtain ⟨r4, e3, _⟩ := DataW.trod_int Tryz.underlying2 h3
    obtain ⟨r5, e4, _⟩ := DataW.trod_int Tryz.underlying2 h4
    match cs, hl with
    | [c0, c1, c2, c3, c4], _ =>
      simp only [List.drop_zero, List.take_succ_cons, List.take_zero, List.drop_succ_cons, List.cons.injEq, and_true] at e0 e1 e2 e3 e4
      exact ⟨r1, r2, r3, r4, r5, by rw [e0, e1, e2, e3, e4]⟩
set_option maxRecDepth 100000 in
set_option maxHeartbeats 4000000 in
theorem cfg_of {H : Type} {enc : TypeId × Value → H} {w : World} {base : Nat} {spare : Nat → Bool} {held : Bool} {fuel : Nat} {cs : List Value} {x : DataW H × List MemPlace}
    (h : DataW.trod enc Tryz.prog w base spare held fuel 28 cs = some x) : ∃ (cb : Int) (cg : Int) (co : Int) (cn : Int) (ce : Int) (cf : Int) (ct : Int) (cc : Int) (na : Option Addr) (nc : Nat) (ns : List ByteArray) (ls : Int) (lc : Int) (lt : Int) (r1 : Int) (r2 : Int) (r3 : Int) (r4 : Int) (r5 : Int), cs = [.int .i64 cb, .int .i64 cg, .int .i64 co, .int .i64 cn, .int .i64 ce, .int .i64 cf, .int .i64 ct, .int .i64 cc, .slice na ns.length nc, .int .i64 ls, .int .i64 lc, .int .i64 lt, .int .i64 r1, .int .i64 r2, .int .i64 r3, .int .i64 r4, .int .i64 r5] ∧ ns.length ≤ maxLen ∧ (∀ y ∈ ns, y.size ≤ maxLen) ∧ TIn w na ns := by
  obtain ⟨xs, n, _, _, hl, hlen, hf⟩ := DataW.trod_struct Tryz.underlying28 h
  match xs, hlen with
  | [y0, y1, y2, y3, y4, y5, y6, y7, y8, y9, y10], _ =>
    have h0 : DataW.trod enc Tryz.prog w base spare held n 2 ((cs.drop 0).take (Tryz.prog.cellsOf 2)) = some y0 := hf 0 _ rfl
    have h1 : DataW.trod enc Tryz.prog w base spare held n 2 ((cs.drop 1).take (Tryz.prog.cellsOf 2)) = some y1 := hf 1 _ rfl
    have h2 : DataW.trod enc Tryz.prog w base spare held n 2 ((cs.drop 2).take (Tryz.prog.cellsOf 2)) = some y2 := hf 2 _ rfl
    have h3 : DataW.trod enc Tryz.prog w base spare held n 2 ((cs.drop 3).take (Tryz.prog.cellsOf 2)) = some y3 := hf 3 _ rfl
    have h4 : DataW.trod enc Tryz.prog w base spare held n 2 ((cs.drop 4).take (Tryz.prog.cellsOf 2)) = some y4 := hf 4 _ rfl
    have h5 : DataW.trod enc Tryz.prog w base spare held n 2 ((cs.drop 5).take (Tryz.prog.cellsOf 2)) = some y5 := hf 5 _ rfl
    have h6 : DataW.trod enc Tryz.prog w base spare held n 2 ((cs.drop 6).take (Tryz.prog.cellsOf 2)) = some y6 := hf 6 _ rfl
    have h7 : DataW.trod enc Tryz.prog w base spare held n 2 ((cs.drop 7).take (Tryz.prog.cellsOf 2)) = some y7 := hf 7 _ rfl
    have h8 : DataW.trod enc Tryz.prog w base spare held n 22 ((cs.drop 8).take (Tryz.prog.cellsOf 22)) = some y8 := hf 8 _ rfl
    have h9 : DataW.trod enc Tryz.prog w base spare held n 24 ((cs.drop 9).take (Tryz.prog.cellsOf 24)) = some y9 := hf 9 _ rfl
    have h10 : DataW.trod enc Tryz.prog w base spare held n 26 ((cs.drop 12).take (Tryz.prog.cellsOf 26)) = some y10 := hf 10 _ rfl
    rw [cfOneI] at h0 h1 h2 h3 h4 h5 h6 h7
    rw [cfOneT] at h8
    rw [cellslan_cs] at h9
    rw [cellsrul_cs] at h10
    obtain ⟨cb, e0, _⟩ := DataW.trod_int Tryz.underlying2 h0
    obtain ⟨cg, e1, _⟩ := DataW.trod_int Tryz.underlying2 h1
    obtain ⟨co, e2, _⟩ := DataW.trod_int Tryz.underlying2 h2
    obtain ⟨cn, e3, _⟩ := DataW.trod_int Tryz.underlying2 h3
    obtain ⟨ce, e4, _⟩ := DataW.trod_int Tryz.underlying2 h4
    obtain ⟨cf, e5, _⟩ := DataW.trod_int Tryz.underlying2 h5
    obtain ⟨ct, e6, _⟩ := DataW.trod_int Tryz.underlying2 h6
    obtain ⟨cc, e7, _⟩ := DataW.trod_int Tryz.underlying2 h7
    obtain ⟨na, nn, nc, e8⟩ := slice_cs Tryz.underlying22 h8
    rw [e8] at h8
    obtain ⟨ns, rfl, m8, s8, o8⟩ := open_texts h8
    obtain ⟨ls, lc, lt, e9⟩ := lan_cs h9
    obtain ⟨r1, r2, r3, r4, r5, e10⟩ := rul_cs h10
    refine ⟨cb, cg, co, cn, ce, cf, ct, cc, na, nc, ns, ls, lc, lt, r1, r2, r3, r4, r5, ?_, m8, s8, o8⟩
    rw [cCfg] at hl
    match cs, hl with
    | [c0, c1, c2, c3, c4, c5, c6, c7, c8, c9, c10, c11, c12, c13, c14, c15, c16], _ =>
      simp only [List.drop_zero, List.take_succ_cons, List.take_zero, List.drop_succ_cons, List.cons.injEq, and_true] at e0 e1 e2 e3 e4 e5 e6 e7 e8 e9 e10
      obtain ⟨f9, f10, f11⟩ := e9
      obtain ⟨f12, f13, f14, f15, f16⟩ := e10
      rw [e0, e1, e2, e3, e4, e5, e6, e7, e8, f9, f10, f11, f12, f13, f14, f15, f16]
set_option maxRecDepth 100000 in
theorem open_config {H : Type} {enc : TypeId × Value → H} {w : World} {r : Reach} {b0 base : Nat} {spare : Nat → Bool} {held : Bool} {v : Value} {d : DataW H} {p : List MemPlace}
    (hv : Value.okWide Tryz.prog w r b0 28 v) (h : DataW.Trod enc Tryz.prog w base spare held 28 v d p) : ∃ (cb : Int) (cg : Int) (co : Int) (cn : Int) (ce : Int) (cf : Int) (ct : Int) (cc : Int) (na : Option Addr) (nc : Nat) (ns : List ByteArray) (ls : Int) (lc : Int) (lt : Int) (r1 : Int) (r2 : Int) (r3 : Int) (r4 : Int) (r5 : Int), v = .agg #[.int .i64 cb, .int .i64 cg, .int .i64 co, .int .i64 cn, .int .i64 ce, .int .i64 cf, .int .i64 ct, .int .i64 cc, .slice na ns.length nc, .int .i64 ls, .int .i64 lc, .int .i64 lt, .int .i64 r1, .int .i64 r2, .int .i64 r3, .int .i64 r4, .int .i64 r5] ∧ ns.length ≤ maxLen ∧ (∀ y ∈ ns, y.size ≤ maxLen) ∧ TIn w na ns := by
  obtain ⟨cs, rfl, hsz⟩ := okWide_struct Tryz.underlying28 hv
  obtain ⟨fuel, hf0⟩ := h
  obtain ⟨cb, cg, co, cn, ce, cf, ct, cc, na, nc, ns, ls, lc, lt, r1, r2, r3, r4, r5, e, h1⟩ := cfg_of hf0
  refine ⟨cb, cg, co, cn, ce, cf, ct, cc, na, nc, ns, ls, lc, lt, r1, r2, r3, r4, r5, ?_, h1⟩
  simp only [Value.cells] at e
  show Value.agg cs = .agg _
  congr 1
  exact Array.toList_inj.1 e
end Go.Proofs.YtlbagfaiiileoaaGreatDoor
/-
  Facts of the program as a whole that every card of this seat leans on: each reckoned by the kernel, each by itself.
-/
namespace Go.Proofs.YtlbagfaiiileoaaGreatDoor
theorem pf_laid : laidOutB Tryz.prog = true := by kernel_rfl
theorem pf_maps : mapsRowed Tryz.prog = true := by kernel_rfl
theorem pf_stops : (Tryz.prog.stops == []) = true := by kernel_rfl
theorem pf_knobs : (Tryz.prog.stopKnobs == []) = true := by kernel_rfl
theorem pf_heard : Tryz.prog.stopsHeard = true := by kernel_rfl
theorem pf_enter : Tryz.prog.mayEnter = true := by kernel_rfl
theorem pf_prog : Tryz.pinned.checked.prog = Tryz.prog := by kernel_rfl
end Go.Proofs.YtlbagfaiiileoaaGreatDoor
/-
  As many variables are read as are named.
-/
namespace Go.Proofs.YtlbagfaiiileoaaGreatDoor
theorem trodVars_len {H : Type} {enc : TypeId × Value → H} {P : Program} {W : World} {sp : Nat → Bool} : ∀ {ns : List String} {gs : List (DataW H)} {ps : List MemPlace}, DataW.TrodVars enc P W sp ns gs ps → gs.length = ns.length
  | [], [], _, _ => rfl
  | [], _ :: _, _, h => h.elim
  | _ :: _, [], _, h => h.elim
  | n :: ns, d :: ds, ps, h => by
    obtain ⟨g, t, cs, fuel, p, q, h1, h2, h3, h4, hs, e⟩ := h
    simp [trodVars_len hs]
end Go.Proofs.YtlbagfaiiileoaaGreatDoor
