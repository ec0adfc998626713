/-
  Texts of one claim, one behind the other.
-/
import Derived.BigQuiet
import Derived.Deep.AppendLies
import Derived.Deep.RegionHeld3
import Derived.Deep.RegionWith
import Derived.Lib.QuietBelow
import Derived.Lib.SliceRun
import Derived.Maps.OwnSet
import Derived.StillTail
import Derived.Test.YtaphofdcoddopaaGreatDoorMgB
/-
  What PackHeaders and its model answer.
-/
namespace Go.Proofs.YtaphofdcoddopaaGreatDoor
open Go.ChangeShapes Go.WideShapes Go.ChangeAt Go.RowKit Go.Sort
set_option maxRecDepth 100000 in
set_option maxHeartbeats 4000000 in
theorem implPack_ok (w : World) (a : Option Addr) (cap : Nat) (l : List Hdr) (h0 : headsC l = 0) (hset : SetIs w) (hi : HdsIn w a l) :
    Calls Tryz.prog 144 #[.slice a l.length cap] w fun e w' => e = .returned (.agg #[.int .i64 0, .string ⟨(packL l).toArray⟩]) ∧ Below w.heap.size w w' := by
  obtain ⟨h20, hfl⟩ := headsC_zero h0
  have HF : Hid (∀ W, Below w.heap.size w W → Calls Tryz.prog 121 #[.slice a l.length cap] W fun e w' => e = .returned (.int .i64 0) ∧ Below W.heap.size W w') := fun W hb => by
    have := implHFault_any W a cap l (by omega) (hset.below hb) (hi.keep hb)
    rw [h0] at this
    exact this
  have HI : Hid (HdsIn w a l) := hi
  have HZ : Hid (∀ (i : Nat) r, l[i]? = some r → r.name.size ≤ 64 ∧ r.value.size ≤ 200) := fun i r hr => by obtain ⟨x1, x2, _⟩ := faultH_zero (hfl i r hr); exact ⟨hword_max x1, x2⟩
  clear hi hset hfl h0
  generalize hn : l.length = n at *
  have HN : Hid (l.length = n) := hn
  clear hn
  go_enter Tryz.func144, Tryz.ntmps144
  go_wp2_with fail
  refine (HF.out _ ((Below.refl _ _).alloc (Nat.le_refl _) _)).mono ?_
  rintro e w1 ⟨rfl, hb1⟩
  rw [World.size_alloc] at hb1
  have HB1 : Hid (Below (w.heap.size + 1) (w.alloc (.cells #[.int .i64 0, .string ⟨#[]⟩] 161)) w1) := hb1
  clear hb1 HF
  go_wp2_with fail
  go_loopw [4, 15] (fun v i wr => ∃ (k : Nat) (o : ByteArray), k ≤ n ∧ i = .int .i64 k ∧ v = .string o ∧ o.data.toList = packL (l.take k) ∧ o.size ≤ k * 268 ∧ Below (w.heap.size + 1) (w.alloc (.cells #[.int .i64 0, .string ⟨#[]⟩] 161)) wr) (fun _ i _ => n - (intOf i).toNat)
  case atStart => exact ⟨0, ⟨#[]⟩, Nat.zero_le _, rfl, rfl, rfl, Nat.zero_le _, HB1.out⟩
  case round =>
    obtain ⟨k, o, hk, rfl, rfl, ho, hos, hb⟩ := hrel
    have HO : Hid (o.data.toList = packL (l.take k)) := ho
    have hz : w.heap.size + 1 ≤ wr.heap.size := by have := hb.size; rwa [World.size_alloc] at this
    clear ho HB1
    by_cases hlt : k < n
    · obtain ⟨r, hr⟩ : ∃ r, l[k]? = some r := ⟨l[k]'(by have := HN.out; omega), List.getElem?_eq_getElem _⟩
      obtain ⟨b, off, rfl, hat⟩ := HI.out.ok hr
      have hwr : Below w.heap.size w wr := ((Below.refl _ _).alloc (Nat.le_refl _) _).trans (hb.mono (Nat.le_succ _))
      obtain ⟨p1, p3⟩ := (hat.keep hwr) k r hr
      obtain ⟨z1, z2⟩ := HZ.out k r hr
      have HJ : Hid (packL (l.take (k + 1)) = packL (l.take k) ++ lineL r) := packL_take hr
      have gk : (k : Int) < n := by omega
      clear hr hat HI hwr HZ
      obtain ⟨rn, rv⟩ := r
      simp only at p1 p3 z1 z2
      have hoz : o.size ≤ 6000 := by omega
      have HT : Hid ((o ++ (rn ++ ⟨#[58, 32]⟩ ++ rv ++ ⟨#[13, 10]⟩) : ByteArray).data.toList = packL (l.take (k + 1))) := by
        show _ = _
        rw [HJ.out, line_app2, HO.out]
      have HU : Hid ((o ++ (rn ++ ⟨#[58, 32]⟩ ++ rv ++ ⟨#[13, 10]⟩) : ByteArray).size ≤ (k + 1) * 268) := by
        show _ ≤ _
        simp only [ByteArray.size_append, show (⟨#[58, 32]⟩ : ByteArray).size = 2 from rfl, show (⟨#[13, 10]⟩ : ByteArray).size = 2 from rfl]
        omega
      clear HJ HO
      go_wp2_with fail
      go_roundw
      case rel => exact ⟨k + 1, o ++ (rn ++ ⟨#[58, 32]⟩ ++ rv ++ ⟨#[13, 10]⟩), by omega, by go_num, rfl, HT.out, HU.out, hb.alloc hz _⟩
      case measure => simp [intOf]; omega
    · have HT : Hid ((⟨(packL l).toArray⟩ : ByteArray) = o) := by
        show _ = _
        rw [← List.take_of_length_le (l := l) (i := k) (by have := HN.out; omega), ← HO.out]
      obtain ⟨hz2, q0, q1, f0, f1, kb⟩ := text_room hb
      obtain ⟨r0, r1⟩ := two_set (v0 := .int .i64 0) (v1 := .string o) q0 q1
      clear HO hb
      go_wp2_with fail
      exact bodyPost_ret (v := .agg #[.int .i64 0, .string o]) (by simp [results, Tryz.results144, go_sem, r0, r1]) rfl ⟨by rw [HT.out], (kb.setCell (Nat.le_refl _) _).setCell (Nat.le_refl _) _⟩
set_option maxHeartbeats 1000000 in
theorem implPack_any (w : World) (a : Option Addr) (cap : Nat) (l : List Hdr) (hl : l.length ≤ 1048576) (hset : SetIs w) (hi : HdsIn w a l) :
    Calls Tryz.prog 144 #[.slice a l.length cap] w fun e w' => e = .returned (.agg #[.int .i64 (headsC l), .string (packT l)]) ∧ Below w.heap.size w w' := by
  by_cases h0 : headsC l = 0
  · rw [packT_ok h0, h0]
    exact implPack_ok w a cap l h0 hset hi
  · have HF : Hid (∀ W, Below w.heap.size w W → Calls Tryz.prog 121 #[.slice a l.length cap] W fun e w' => e = .returned (.int .i64 (headsC l)) ∧ Below W.heap.size W w') := fun W hb => implHFault_any W a cap l hl (hset.below hb) (hi.keep hb)
    rw [packT_bad h0]
    clear hi hset
    generalize headsC l = fc at *
    generalize l.length = n at *
    go_enter Tryz.func144, Tryz.ntmps144
    go_wp2_with fail
    refine (HF.out _ ((Below.refl _ _).alloc (Nat.le_refl _) _)).mono ?_
    rintro e w1 ⟨rfl, hb1⟩
    rw [World.size_alloc] at hb1
    obtain ⟨hz2, q0, q1, f0, f1, kb⟩ := text_room hb1
    obtain ⟨r0, r1⟩ := two_set (v0 := .int .i64 fc) (v1 := .string ⟨#[]⟩) q0 q1
    clear hb1 HF
    go_wp2_with fail
    exact bodyPost_ret (v := .agg #[.int .i64 fc, .string ⟨#[]⟩]) (by simp [results, Tryz.results144, go_sem, r0, r1]) rfl ⟨rfl, (kb.setCell (Nat.le_refl _) _).setCell (Nat.le_refl _) _⟩
end Go.Proofs.YtaphofdcoddopaaGreatDoor
/-
  What an entry costs, by the program.
-/
namespace Go.Proofs.YtaphofdcoddopaaGreatDoor
open Go.ChangeShapes Go.WideShapes Go.ChangeAt Go.RowKit Go.Sort
theorem cfield_text (c : Int) (t : ByteArray) (w : World) : (Instr.field 161 (.agg #[.int .i64 c, .string t]) 1).run Tryz.prog w = .ok (.string t) w := by kernel_rfl
set_option maxRecDepth 100000 in
set_option maxHeartbeats 4000000 in
theorem costOne_at (w : World) (b off : Nat) (key : ByteArray) (ha : Option Addr) (hc : Nat) (hs : List Hdr) (ba : Option Addr) (bn bc : Nat) (hset : SetIs w)
    (h0 : w.cell? ⟨b, off, none⟩ = some (.string key)) (h2 : w.cell? ⟨b, off + 2, none⟩ = some (.slice ha hs.length hc)) (h3 : w.cell? ⟨b, off + 3, none⟩ = some (.slice ba bn bc))
    (hk : key.size ≤ 500) (hb : bn ≤ 2000) (hh : headsC hs = 0) (hH : HdsIn w ha hs) :
    Calls Tryz.prog 110 #[.pointer (some ⟨b, off, none⟩)] w fun r w' => r = .returned (.int .i64 (costN key hs bn)) ∧ Below w.heap.size w w' := by
  obtain ⟨h20, hfl⟩ := headsC_zero hh
  have hlen := packL_len4 hs (fun r hr => by obtain ⟨i, hi⟩ := List.mem_iff_getElem?.1 hr; exact hfl i r hi)
  have HC : Hid (∀ X, Below w.heap.size w X → Calls Tryz.prog 144 #[.slice ha hs.length hc] X fun e w' => e = .returned (.agg #[.int .i64 0, .string ⟨(packL hs).toArray⟩]) ∧ Below X.heap.size X w') := fun X hX => by
    have := implPack_any X ha hc hs (by omega) (hset.below hX) (hH.keep hX)
    rw [hh, show packT hs = ⟨(packL hs).toArray⟩ from by unfold packT; rw [if_pos hh]] at this
    exact this
  have hsz : ((⟨(packL hs).toArray⟩ : ByteArray).size : Int) = ((packL hs).length : Int) := by simp [ByteArray.size]
  unfold costN
  have hlt : b < w.heap.size := block_lt_of_cell h0
  have HKS : Hid (∀ X, Below w.heap.size w X → X.cell? ⟨b, off, none⟩ = some (.string key) ∧ X.cell? ⟨b, off + 2, none⟩ = some (.slice ha hs.length hc) ∧ X.cell? ⟨b, off + 3, none⟩ = some (.slice ba bn bc)) := fun X hX => ⟨by rw [hX.cell (p := ⟨b, off, none⟩) hlt]; exact h0, by rw [hX.cell (p := ⟨b, off + 2, none⟩) hlt]; exact h2, by rw [hX.cell (p := ⟨b, off + 3, none⟩) hlt]; exact h3⟩
  generalize hP : (⟨(packL hs).toArray⟩ : ByteArray) = pk at *
  rw [← hsz]
  have hpk : pk.size ≤ 5360 := by omega
  clear hH hfl hlen hsz hh hP h20 h2 h3 hset
  generalize hs.length = hl at *
  have hfd := cfield_text
  have e1 : IntKind.i64.wrap (50 + (key.size : Int)) = 50 + (key.size : Int) := by
    unfold IntKind.wrap; simp [IntKind.signed, IntKind.bits]; omega
  have e2 : IntKind.i64.wrap (50 + (key.size : Int) + (pk.size : Int)) = 50 + (key.size : Int) + (pk.size : Int) := by
    unfold IntKind.wrap; simp [IntKind.signed, IntKind.bits]; omega
  have e3 : IntKind.i64.wrap (50 + (key.size : Int) + (pk.size : Int) + (bn : Int)) = 50 + (key.size : Int) + (pk.size : Int) + (bn : Int) := by
    unfold IntKind.wrap; simp [IntKind.signed, IntKind.bits]; omega
  have B0 : Hid (Below w.heap.size w w.drew) := (Below.refl _ _).drew
  go_enter Tryz.func110, Tryz.ntmps110
  go_wp2_with fail
  go_region_held3 (fun X => X.cell? ⟨b, off, none⟩ = some (.string key) ∧ X.cell? ⟨b, off + 2, none⟩ = some (.slice ha hl hc) ∧ X.cell? ⟨b, off + 3, none⟩ = some (.slice ba bn bc))
    (first | exact HKS.out _ BA.out | exact HKS.out _ B0.out)
    (first | (go_at_call 144; refine (HC.out _ B0.out).mono ?_; rintro e0 wa ⟨rfl, hba⟩; have BA : Hid (Below w.heap.size w wa) := B0.out.trans (hba.mono B0.out.size); clear hba))
  all_goals
    go_wp2_with fail
    go_ret
    exact ⟨ret_int (by omega), BA.out⟩
end Go.Proofs.YtaphofdcoddopaaGreatDoor
/-
  What the entries of a shelf cost together, by the program.
-/
namespace Go.Proofs.YtaphofdcoddopaaGreatDoor
open Go.ChangeShapes Go.WideShapes Go.ChangeAt Go.RowKit Go.Sort
theorem costOne_h (w : World) (h : Hdl) (hset : SetIs w) (ht : HThere w h) (h0 : entC h.x = 0) :
    Calls Tryz.prog 110 #[.pointer (some ⟨h.b, h.o, none⟩)] w fun r w' => r = .returned (.int .i64 (entN h.x)) ∧ Below w.heap.size w w' := by
  obtain ⟨z1, _, _, z4, z5, _, _⟩ := entryC_zero h0
  have c := ht.cells
  exact costOne_at w h.b h.o h.x.key h.r.ha h.r.hc h.x.hs h.r.ba h.x.bl.length h.r.bc hset c.1 c.2.2.1 c.2.2.2.1 z1.2 z5 z4 ht.2.h
set_option maxRecDepth 100000 in
set_option maxHeartbeats 8000000 in
theorem shSum_any (w : World) (v : Value) (base : Nat) (l : List Hdl) (ho : OwnP w base v l) (hset : SetIs w) (hl : l.length ≤ 41) (hth : ∀ h ∈ l, HThere w h) (hz : ∀ h ∈ l, entC h.x = 0) :
    Calls Tryz.prog 109 #[.agg #[v], .func (.func 110) #[] #[]] w fun e w' => e = .returned (.int .i64 (costsE (l.map Hdl.x))) ∧ Below w.heap.size w w' := by
  obtain ⟨va, vc, rfl, _, hf⟩ := ho.form
  have HC : Hid (∀ (k : Nat) h, l[k]? = some h → ∃ g, va = some ⟨g, 0, none⟩ ∧ g < w.heap.size ∧ w.cell? ⟨g, k, none⟩ = some (.pointer (some ⟨h.b, h.o, none⟩))) := fun k h hk => by
    rcases hf with rfl | ⟨g, e, _, hg, hc⟩
    · simp at hk
    · exact ⟨g, e, hg, hc k h hk⟩
  have HT : Hid (∀ X, Below w.heap.size w X → ∀ h ∈ l, Calls Tryz.prog 110 #[.pointer (some ⟨h.b, h.o, none⟩)] X fun r w' => r = .returned (.int .i64 (entN h.x)) ∧ Below X.heap.size X w') := fun X hX h hh => costOne_h X h (hset.below hX) ((hth h hh).keep hX) (hz h hh)
  have HZ : Hid (∀ h ∈ l, entC h.x = 0) := hz
  clear hf ho hth hz hset
  obtain ⟨S, hS⟩ : ∃ S, Hid (costsE (l.map Hdl.x) = S) := ⟨_, rfl⟩
  rw [hS.out]
  generalize hn : l.length = n at *
  have HN : Hid (l.length = n) := hn
  clear hn
  have B0 : Hid (Below w.heap.size w (w.alloc (.cells #[.slice va n vc] 83))) := (Below.refl _ _).alloc (Nat.le_refl _) _
  go_enter Tryz.func109, Tryz.ntmps109
  go_wp2_with fail
  go_loopw [5, 11] (fun x i wr => ∃ (k : Nat) (c : Int), k ≤ n ∧ i = .int .i64 k ∧ x = .int .i64 c ∧ 0 ≤ c ∧ c ≤ 8000 * k ∧ S = c + costsE ((l.map Hdl.x).drop k) ∧ Below w.heap.size w wr) (fun _ i _ => n - (intOf i).toNat)
  case atStart => exact ⟨0, 0, Nat.zero_le _, rfl, rfl, by omega, by omega, by rw [← hS.out]; simp, B0.out⟩
  case round =>
    obtain ⟨k, c, hk, rfl, rfl, c2, c3, hs, hb⟩ := hrel
    have HS : Hid (S = c + costsE ((l.map Hdl.x).drop k)) := hs
    clear hs hS B0
    by_cases hlt : k < n
    · obtain ⟨q, hr⟩ : ∃ r, l[k]? = some r := ⟨l[k]'(by have := HN.out; omega), List.getElem?_eq_getElem _⟩
      obtain ⟨g', rfl, hg, hc⟩ := HC.out k q hr
      have p1 : wr.cell? ⟨g', k, none⟩ = some (.pointer (some ⟨q.b, q.o, none⟩)) := by rw [hb.cell (p := ⟨g', k, none⟩) hg]; exact hc
      have hle := entN_le (HZ.out q (List.mem_of_getElem? hr))
      have HS2 : Hid (S = c + entN q.x + costsE ((l.map Hdl.x).drop (k + 1))) := by
        show _ = _
        obtain ⟨hk2, hr2⟩ := List.getElem?_eq_some_iff.1 hr
        rw [HS.out, List.drop_eq_getElem_cons (i := k) (by simpa using hk2), costsE]
        simp [hr2]
        omega
      have C : Hid (Calls Tryz.prog 110 #[.pointer (some ⟨q.b, q.o, none⟩)] wr fun r w' => r = .returned (.int .i64 (entN q.x)) ∧ Below wr.heap.size wr w') := HT.out wr hb q (List.mem_of_getElem? hr)
      have g : (k : Int) < n := by omega
      have g0 : (0 : Int) ≤ k := by omega
      have HB : Hid (Below w.heap.size w wr) := hb
      clear HS hr hc hb HC HT HZ hg
      generalize entN q.x = en at *
      have e1 : IntKind.i64.wrap (c + en) = c + en := by
        unfold IntKind.wrap; simp [IntKind.signed, IntKind.bits]; omega
      go_wp2_with fail
      refine C.out.mono ?_
      rintro r w2 ⟨rfl, hb2⟩
      have HB2 : Hid (Below w.heap.size w w2) := HB.out.trans (hb2.mono HB.out.size)
      clear hb2 C HB p1
      go_wp2_with fail
      go_roundw
      case rel => exact ⟨k + 1, c + en, by omega, by go_num, by first | rfl | rw [e1], by omega, by omega, HS2.out, HB2.out⟩
      case measure => simp [intOf]; omega
    · have HF : Hid (S = c) := by
        show _ = _
        rw [HS.out, List.drop_of_length_le (by have := HN.out; simp; omega), costsE]
        omega
      clear HS
      go_wp2_with fail
      go_ret
      exact ⟨ret_int HF.out.symm, hb⟩
set_option maxRecDepth 100000 in
set_option maxHeartbeats 8000000 in
theorem shCost_any (w : World) (v1 v2 : Value) (base : Nat) (l1 l2 : List Hdl) (h : TwoP w base v1 v2 l1 l2) (hset : SetIs w) (hl : l1.length + l2.length ≤ 41) (hth : ∀ h ∈ l1 ++ l2, HThere w h) (hz : ∀ h ∈ l1 ++ l2, entC h.x = 0) :
    Calls Tryz.prog 119 #[.agg #[v1, v2]] w fun e w' => e = .returned (.int .i64 (costsE ((l1 ++ l2).map Hdl.x))) ∧ Below w.heap.size w w' := by
  obtain ⟨a1, k1, e1, _⟩ := h.a.form
  obtain ⟨a2, k2, e2, _⟩ := h.b.form
  obtain ⟨W, hW⟩ : ∃ W, W = w.alloc (.cells #[v1, v2] 85) := ⟨_, rfl⟩
  have HW : Hid (W = w.alloc (.cells #[v1, v2] 85)) := hW
  have bW : Below w.heap.size w W := by rw [hW]; exact (Below.refl _ _).alloc (Nat.le_refl _) _
  have q0 := cell_regrown (show W.cell? ⟨w.heap.size, 0, none⟩ = some v1 by rw [hW]; simp)
  have q1 := cell_regrown (show W.cell? ⟨w.heap.size, 1, none⟩ = some v2 by rw [hW]; simp)
  have cA : ∀ d os, Calls Tryz.prog 109 #[.agg #[v1], .func (.func 110) #[] #[]] (grow (redrawn W d) os) fun e w'' => e = .returned (.int .i64 (costsE (l1.map Hdl.x))) ∧ ∃ p : Regrown, w'' = grow (redrawn W p.d) p.os := fun d os => by
    have b := bW.trans ((below_regrown W d os).mono bW.size)
    exact Calls.regrown_of (shSum_any _ v1 base l1 (h.a.below b) (hset.below b) (by omega) (fun x hx => (hth x (List.mem_append_left _ hx)).keep b) (fun x hx => hz x (List.mem_append_left _ hx)))
  have cB : ∀ d os, Calls Tryz.prog 109 #[.agg #[v2], .func (.func 110) #[] #[]] (grow (redrawn W d) os) fun e w'' => e = .returned (.int .i64 (costsE (l2.map Hdl.x))) ∧ ∃ p : Regrown, w'' = grow (redrawn W p.d) p.os := fun d os => by
    have b := bW.trans ((below_regrown W d os).mono bW.size)
    exact Calls.regrown_of (shSum_any _ v2 base l2 (h.b.below b) (hset.below b) (by omega) (fun x hx => (hth x (List.mem_append_right _ hx)).keep b) (fun x hx => hz x (List.mem_append_right _ hx)))
  have n1 := costsE_le (l1.map Hdl.x) (fun x hx => by obtain ⟨y, hy, rfl⟩ := List.mem_map.1 hx; exact hz y (List.mem_append_left _ hy))
  have n2 := costsE_le (l2.map Hdl.x) (fun x hx => by obtain ⟨y, hy, rfl⟩ := List.mem_map.1 hx; exact hz y (List.mem_append_right _ hy))
  rw [List.length_map] at n1 n2
  rw [List.map_append, costsE_app]
  have HB : Hid (Below w.heap.size w W) := bW
  clear hW bW h hth hz hset
  generalize costsE (l1.map Hdl.x) = s1 at *
  generalize costsE (l2.map Hdl.x) = s2 at *
  have ew : IntKind.i64.wrap (s1 + s2) = s1 + s2 := by
    unfold IntKind.wrap; simp [IntKind.signed, IntKind.bits]; omega
  subst e1
  subst e2
  go_enter Tryz.func119, Tryz.ntmps119
  go_wp2_with fail
  rw [← HW.out]
  refine wp_region_quiet_below (by kernel_rfl) (by kernel_rfl) ?_
  repeat (go_big_quiet_step (first | (go_at_call 109; with_reducible exact cA _ _) | (go_at_call 109; with_reducible exact cB _ _)))
  refine wpQuiet_nil ?_
  intro w2 hw2
  have hbb : Below w.heap.size w w2 := by
    obtain ⟨⟨d, os⟩, rfl⟩ := hw2
    exact HB.out.trans ((below_regrown W d os).mono HB.out.size)
  clear hw2 cA cB q0 q1 HW
  go_wp2_with fail
  go_ret
  exact ⟨rfl, hbb⟩
end Go.Proofs.YtaphofdcoddopaaGreatDoor
/-
  A map of texts to places, in memory: what is asked of it, what is laid into it, what goes from it.
-/
namespace Go.Proofs.YtaphofdcoddopaaGreatDoor
open Go.ChangeShapes Go.WideShapes Go.ChangeAt Go.RowKit Go.Maps
open Go.WideMaps (keyOf_string_mk)
theorem isKeyL (x : ByteArray) : WideAt.IsKeyLit (.string x.data.toList) := trivial
theorem hkeyed : Keyed Tryz.prog 9 := string_keyed Tryz.underlying9
theorem hzeroInt (w : World) : (zeroValue 3).run Tryz.prog w = .ok (.int .i64 0) w := by kernel_rfl
def keyL (x : ByteArray) : Lit := .string x.data.toList
theorem keyL_ne {x y : ByteArray} (h : x ≠ y) : keyL x ≠ keyL y := by
  intro e
  unfold keyL at e
  simp only [Lit.string.injEq] at e
  exact h (ByteArray.ext (Array.ext' e))
/-- Block B is a map of at most n entries that has p's places at p's names. -/
def NamesMap (w : World) (B n : Nat) (p : ByteArray → Option Nat) : Prop :=
  ∃ D : DataW Unit, w.ownsMap Tryz.prog 9 (plainElem Tryz.prog 3) B n D ∧ ∀ x : ByteArray, Maps.has D (keyL x) = (p x).isSome ∧ ∀ i, p x = some i → D.atKey (keyL x) (.lit (.int .i64 0)) = .lit (.int .i64 (i : Int))
theorem NamesMap.lt {w : World} {B n : Nat} {p : ByteArray → Option Nat} (h : NamesMap w B n p) : B < w.heap.size := by
  obtain ⟨D, h, _⟩ := h
  exact h.lt
theorem NamesMap.below {w w' : World} {B n : Nat} {p : ByteArray → Option Nat} (h : NamesMap w B n p) (hb : Below w.heap.size w w') : NamesMap w' B n p := by
  have hl := h.lt
  obtain ⟨D, ⟨es, clock, hh, r⟩, h2⟩ := h
  exact ⟨D, ⟨es, clock, by rw [hb.block B hl]; exact hh, r⟩, h2⟩
theorem NamesMap.setCell {w : World} {B n : Nat} {p : ByteArray → Option Nat} (h : NamesMap w B n p) {a : Addr} (ha : B ≠ a.block) (u : Value) : NamesMap (w.setCell a u) B n p := by
  obtain ⟨D, h, h2⟩ := h
  exact ⟨D, h.setCell ha u, h2⟩
theorem NamesMap.made (w : World) : NamesMap (w.alloc (.map #[] 0)) w.heap.size 0 (fun _ => none) :=
  ⟨.map [], World.ownsMap_made w _ _ _, fun x => ⟨rfl, fun i h => by cases h⟩⟩
theorem NamesMap.of {w : World} {B n : Nat} {p q : ByteArray → Option Nat} (h : NamesMap w B n p) (e : ∀ x, p x = q x) : NamesMap w B n q := by
  obtain rfl : p = q := funext e
  exact h
theorem turned_below {w w' : World} {B base : Nat} (h : w.mapTurned w' B) (hb : base ≤ B) : Below base w w' :=
  (Below.refl base w).grown h.grown (by
    obtain ⟨es, clock, es', clock', hh, rfl⟩ := h
    have := (Array.getElem?_eq_some_iff.1 hh).1
    omega) (fun q hq => by cases hq; exact hb)
section
variable {ops : Array Oper} {rest : List Oper} {o : Oper} {a : Act} {Q : Exit → Act → World → Prop}
theorem wpList_look_none (w : World) (hg : o.guard = none) (m x : Operand) (hop : o.op = Op.lookup 168 m x true) (B n : Nat) (p : ByteArray → Option Nat)
    (hm : a.eval m = .map (some B)) (hown : NamesMap w B n p) (key : ByteArray) (hx : a.eval x = .string key) (hk : key.size ≤ 1048576) (hp : p key = none)
    (hK : wpList Tryz.prog ops Q rest (a.put o.dst (.tuple #[.int .i64 0, .bool false])) w) : wpList Tryz.prog ops Q (o :: rest) a w := by
  obtain ⟨D, hD, hat⟩ := hown
  have h1 : Maps.has D (keyL key) = false := by rw [(hat key).1, hp]; rfl
  refine wpList_lookup_own_ok_int w hg m x 168 hop 9 3 .i64 hkeyed Tryz.underlying168 Tryz.underlying3 (hzeroInt w) B n D hm hD _ (keyL key) hx (keyOf_string_mk Tryz.underlying9 (by unfold maxLen; omega)) ?_
  intro c hc _
  rw [atKey_of_not_has h1] at hc
  obtain rfl : c = 0 := by simpa using hc.symm
  rw [h1]
  exact hK
theorem wpList_look_some (w : World) (hg : o.guard = none) (m x : Operand) (hop : o.op = Op.lookup 168 m x true) (B n : Nat) (p : ByteArray → Option Nat)
    (hm : a.eval m = .map (some B)) (hown : NamesMap w B n p) (key : ByteArray) (hx : a.eval x = .string key) (hk : key.size ≤ 1048576) (i : Nat) (hp : p key = some i)
    (hK : wpList Tryz.prog ops Q rest (a.put o.dst (.tuple #[.int .i64 (i : Int), .bool true])) w) : wpList Tryz.prog ops Q (o :: rest) a w := by
  obtain ⟨D, hD, hat⟩ := hown
  have h1 : Maps.has D (keyL key) = true := by rw [(hat key).1, hp]; rfl
  refine wpList_lookup_own_ok_int w hg m x 168 hop 9 3 .i64 hkeyed Tryz.underlying168 Tryz.underlying3 (hzeroInt w) B n D hm hD _ (keyL key) hx (keyOf_string_mk Tryz.underlying9 (by unfold maxLen; omega)) ?_
  intro c hc _
  rw [(hat key).2 i hp] at hc
  obtain rfl : c = (i : Int) := by simpa using hc.symm
  rw [h1]
  exact hK
theorem wpList_put (w : World) (hg : o.guard = none) (m x v : Operand) (hop : o.op = Op.mapUpdate 168 m x v) (B n : Nat) (p : ByteArray → Option Nat)
    (hm : a.eval m = .map (some B)) (hown : NamesMap w B n p) (hn : n ≤ 1048576) (key : ByteArray) (hx : a.eval x = .string key) (hk : key.size ≤ 1048576) (i : Nat) (hi : i ≤ 1048576) (hv : a.eval v = .int .i64 (i : Int)) (base : Nat) (hbase : base ≤ B)
    (hK : ∀ w', NamesMap w' B (n + 1) (fun y => if y = key then some i else p y) → Below base w w' → wpList Tryz.prog ops Q rest (a.put o.dst undef) w') : wpList Tryz.prog ops Q (o :: rest) a w := by
  obtain ⟨D, hD, hat⟩ := hown
  refine wpList_mapUpdate_in w hg m x v 168 hop 9 3 hkeyed Tryz.underlying168 _ B n D hm hD (by unfold maxLen; omega) _ _ (keyL key) hx hv (keyOf_string_mk Tryz.underlying9 (by unfold maxLen; omega)) (.lit (.int .i64 (i : Int))) [] (plainElem_int Tryz.underlying3 (WalkArith.wf_i64 (by omega))) ?_
  intro w' hD' ht
  refine hK w' ⟨_, hD', fun y => ?_⟩ (turned_below ht hbase)
  by_cases e : y = key
  · subst e
    simp only [if_true]
    refine ⟨has_put_same hD.isMap (isKeyL _) _, fun j hj => ?_⟩
    obtain rfl := Option.some.inj hj
    exact atKey_put_same hD.isMap (isKeyL _) _ _
  · simp only [if_neg e]
    rw [has_put_other (keyL_ne e), atKey_put_other (keyL_ne e)]
    exact hat y
theorem wpList_del (w : World) (hg : o.guard = none) (m x : Operand) (hop : o.op = Op.call { callee := Callee.builtin Builtin.delete, args := #[m, x], argTypes := #[168, 9] }) (B n : Nat) (p : ByteArray → Option Nat)
    (hm : a.eval m = .map (some B)) (hown : NamesMap w B n p) (key : ByteArray) (hx : a.eval x = .string key) (hk : key.size ≤ 1048576) (base : Nat) (hbase : base ≤ B)
    (hK : ∀ w', NamesMap w' B n (fun y => if y = key then none else p y) → Below base w w' → wpList Tryz.prog ops Q rest (a.put o.dst (.tuple #[])) w') : wpList Tryz.prog ops Q (o :: rest) a w := by
  obtain ⟨D, hD, hat⟩ := hown
  refine wpList_delete_own w hg m x 168 9 hop 3 hkeyed Tryz.underlying168 _ B n D hm hD _ (keyL key) hx (keyOf_string_mk Tryz.underlying9 (by unfold maxLen; omega)) ?_
  intro w' hD' ht
  refine hK w' ⟨_, hD', fun y => ?_⟩ (turned_below ht hbase)
  by_cases e : y = key
  · subst e
    simp only [if_true]
    exact ⟨has_del_same, fun j hj => by cases hj⟩
  · simp only [if_neg e]
    rw [has_del_other (keyL_ne e), atKey_del_other (keyL_ne e)]
    exact hat y
end
end Go.Proofs.YtaphofdcoddopaaGreatDoor
/-
  Has a key come twice? By the program, with a map.
-/
namespace Go.Proofs.YtaphofdcoddopaaGreatDoor
open Go.ChangeShapes Go.WideShapes Go.ChangeAt Go.RowKit Go.Maps
open Go.WideMaps (keyOf_string_mk)
/-- Block B is a map that has just the keys K. -/
def KeyMap (w : World) (B : Nat) (K : List ByteArray) : Prop :=
  ∃ D : DataW Unit, w.ownsMap Tryz.prog 9 (plainElem Tryz.prog 3) B K.length D ∧ (∀ x : ByteArray, Maps.has D (keyL x) = true ↔ x ∈ K) ∧ (K.Nodup → Maps.size D = K.length) ∧ (¬ K.Nodup → Maps.size D < K.length)
theorem KeyMap.lt {w : World} {B : Nat} {K : List ByteArray} (h : KeyMap w B K) : B < w.heap.size := by
  obtain ⟨D, h, _⟩ := h
  exact h.lt
theorem KeyMap.below {w w' : World} {B : Nat} {K : List ByteArray} (h : KeyMap w B K) (hb : Below w.heap.size w w') : KeyMap w' B K := by
  have hl := h.lt
  obtain ⟨D, ⟨es, clock, hh, r⟩, h2⟩ := h
  exact ⟨D, ⟨es, clock, by rw [hb.block B hl]; exact hh, r⟩, h2⟩
theorem KeyMap.made (w : World) : KeyMap (w.alloc (.map #[] 0)) w.heap.size [] :=
  ⟨.map [], World.ownsMap_made w _ _ _, fun x => by simp [Maps.has], fun _ => rfl, fun h => absurd List.nodup_nil h⟩
section
variable {ops : Array Oper} {rest : List Oper} {o : Oper} {a : Act} {Q : Exit → Act → World → Prop}
theorem wpList_putK (w : World) (hg : o.guard = none) (m x v : Operand) (hop : o.op = Op.mapUpdate 168 m x v) (B : Nat) (K : List ByteArray)
    (hm : a.eval m = .map (some B)) (hown : KeyMap w B K) (hn : K.length ≤ 1048576) (key : ByteArray) (hx : a.eval x = .string key) (hk : key.size ≤ maxLen) (i : Nat) (hi : i ≤ 1048576) (hv : a.eval v = .int .i64 (i : Int)) (base : Nat) (hbase : base ≤ B)
    (hK : ∀ w', KeyMap w' B (K ++ [key]) → Below base w w' → wpList Tryz.prog ops Q rest (a.put o.dst undef) w') : wpList Tryz.prog ops Q (o :: rest) a w := by
  obtain ⟨D, hD, hat, hs1, hs2⟩ := hown
  refine wpList_mapUpdate_in w hg m x v 168 hop 9 3 hkeyed Tryz.underlying168 _ B K.length D hm hD (by unfold maxLen; omega) _ _ (keyL key) hx hv (keyOf_string_mk Tryz.underlying9 hk) (.lit (.int .i64 (i : Int))) [] (plainElem_int Tryz.underlying3 (WalkArith.wf_i64 (by omega))) ?_
  intro w' hD' ht
  have hsz := size_put (k := keyL key) (hD.tidy hkeyed) (.lit (.int .i64 (i : Int)))
  have hle := hD.size_le
  have hlen : (K ++ [key]).length = K.length + 1 := by simp
  refine hK w' ⟨_, by rw [hlen]; exact hD', fun y => ?_, fun hnd => ?_, fun hnd => ?_⟩ (turned_below ht hbase)
  · rcases Classical.em (y = key) with e | e
    · subst e
      rw [has_put_same (k := keyL y) hD.isMap (isKeyL y) _]
      simp
    · rw [has_put_other (keyL_ne e), hat y]
      simp [e]
  · have h2 := List.nodup_append.1 hnd
    have hnot : ¬ key ∈ K := fun hmem => h2.2.2 key hmem key (by simp) rfl
    have hf : Maps.has D (keyL key) = false := by
      cases c : Maps.has D (keyL key)
      · rfl
      · exact absurd ((hat key).1 c) hnot
    rw [hsz, hf, hs1 h2.1, hlen]
    rfl
  · rw [hsz, hlen]
    rcases Classical.em (key ∈ K) with hmem | hmem
    · rw [(hat key).2 hmem]
      simp only [if_true]
      omega
    · have hf : Maps.has D (keyL key) = false := by
        cases c : Maps.has D (keyL key)
        · rfl
        · exact absurd ((hat key).1 c) hmem
      rw [hf]
      have hn2 : ¬ K.Nodup := fun hnk => hnd (List.nodup_append.2 ⟨hnk, by simp, fun a ha b hb => by simp only [List.mem_singleton] at hb; subst hb; exact fun e => hmem (e ▸ ha)⟩)
      have := hs2 hn2
      simp only [Bool.false_eq_true, if_false]
      omega
end
theorem keys_nodup (l : List Ent) : (l.map Ent.key).Nodup ↔ (keysE l).Nodup := by
  have e : keysE l = (l.map Ent.key).map ByteArray.toList := by simp [keysE]
  rw [e]
  have inj : ∀ a b : ByteArray, a.toList = b.toList → a = b := fun a b h => by
    rw [ByteArray.toList_eq, ByteArray.toList_eq] at h
    exact ByteArray.ext (Array.ext' h)
  constructor
  · intro h
    exact List.Pairwise.map _ (fun a b hab hc => hab (inj a b hc)) h
  · intro h
    exact List.Pairwise.of_map _ (fun a b hab hc => hab (by rw [hc])) h
set_option maxRecDepth 100000 in
set_option maxHeartbeats 8000000 in
theorem keyTwice_any (w : World) (v : Value) (base : Nat) (l : List Hdl) (ho : OwnP w base v l) (hl : l.length ≤ 1000000) (hth : ∀ h ∈ l, HThere w h) (hz : ∀ h ∈ l, h.x.key.size ≤ maxLen) :
    Calls Tryz.prog 118 #[v] w fun e w' => e = .returned (.bool (dupE (l.map Hdl.x))) ∧ Below w.heap.size w w' := by
  obtain ⟨va, vc, rfl, _, hf⟩ := ho.form
  have HC : Hid (∀ X, Below w.heap.size w X → ∀ (k : Nat) h, l[k]? = some h → ∃ g, va = some ⟨g, 0, none⟩ ∧ X.cell? ⟨g, k, none⟩ = some (.pointer (some ⟨h.b, h.o, none⟩)) ∧ X.cell? ⟨h.b, h.o, none⟩ = some (.string h.x.key) ∧ h.x.key.size ≤ maxLen) := fun X hX k h hk => by
    rcases hf with rfl | ⟨g, e, _, hg, hc⟩
    · simp at hk
    · have t := ((hth h (List.mem_of_getElem? hk)).keep hX).cells.1
      exact ⟨g, e, by rw [hX.cell (p := ⟨g, k, none⟩) hg]; exact hc k h hk, t, hz h (List.mem_of_getElem? hk)⟩
  clear hf ho hth hz
  obtain ⟨S, hS⟩ : ∃ S, Hid (dupE (l.map Hdl.x) = S) := ⟨_, rfl⟩
  rw [hS.out]
  generalize hn : l.length = n at *
  have HN : Hid (l.length = n) := hn
  clear hn
  have B0 : Hid (Below w.heap.size w (w.alloc (.map #[] 0))) := (Below.refl _ _).alloc (Nat.le_refl _) _
  have M0 : Hid (KeyMap (w.alloc (.map #[] 0)) w.heap.size []) := KeyMap.made w
  have hmm := @run_makeMap Tryz.prog
  go_enter Tryz.func118, Tryz.ntmps118
  go_wp2_with fail
  go_loopw [9] (fun i wr => ∃ k : Nat, k ≤ n ∧ i = .int .i64 k ∧ KeyMap wr w.heap.size ((l.map (fun h => h.x.key)).take k) ∧ Below w.heap.size w wr) (fun i _ => n - (intOf i).toNat)
  case atStart => exact ⟨0, Nat.zero_le _, rfl, M0.out, B0.out⟩
  case round =>
    obtain ⟨k, hk, rfl, hm, hb⟩ := hrel
    have HM : Hid (KeyMap wr w.heap.size ((l.map (fun h => h.x.key)).take k)) := hm
    clear hm M0 B0
    have HB : Hid (Below w.heap.size w wr) := hb
    by_cases hlt : k < n
    · obtain ⟨q, hr⟩ : ∃ r, l[k]? = some r := ⟨l[k]'(by have := HN.out; omega), List.getElem?_eq_getElem _⟩
      obtain ⟨g', rfl, hc, hc2, hks⟩ := HC.out _ hb k q hr
      have HK2 : Hid ((l.map (fun h => h.x.key)).take k ++ [q.x.key] = (l.map (fun h => h.x.key)).take (k + 1)) := by
        show _ = _
        obtain ⟨hk2, hr2⟩ := List.getElem?_eq_some_iff.1 hr
        rw [List.take_succ_eq_append_getElem (by simpa using hk2)]
        simp [hr2]
      have HLN : Hid (((l.map (fun h => h.x.key)).take k).length ≤ 1048576) := by
        show _ ≤ _
        rw [List.length_take, List.length_map, HN.out]
        omega
      have g : (k : Int) < n := by omega
      have g0 : (0 : Int) ≤ k := by omega
      clear hr hb HC
      generalize q.x.key = qk at *
      go_wp2_with (at_mapUpdate; refine wpList_putK _ rfl (.tmp 14) (.tmp 18) (.tmp 19) rfl w.heap.size _ rfl HM.out HLN.out qk rfl hks k (by omega) rfl w.heap.size (Nat.le_refl _) ?_; intro w' hm' hb')
      rw [HK2.out] at hm'
      go_wp2_with fail
      go_roundw
      case rel => exact ⟨k + 1, by omega, by go_num, hm', HB.out.trans hb'⟩
      case measure => simp [intOf]; omega
    · have hkn : k = n := by omega
      subst hkn
      obtain ⟨D, hD, _, hs1, hs2⟩ := HM.out
      have e : (l.map (fun h => h.x.key)).take k = (l.map Hdl.x).map Ent.key := by
        rw [List.take_of_length_le (by have := HN.out; simp; omega)]
        simp
      rw [e] at hs1 hs2
      have hlen : ((l.map Hdl.x).map Ent.key).length = k := by have := HN.out; simp; exact this
      have HE : Hid (decide (Maps.size D < k) = S) := by
        show _ = _
        rw [← hS.out]
        unfold dupE
        by_cases hd : (keysE (l.map Hdl.x)).Nodup
        · have := hs1 ((keys_nodup _).2 hd)
          rw [decide_eq_true hd]
          simp
          omega
        · have := hs2 (fun h => hd ((keys_nodup _).1 h))
          rw [decide_eq_false hd]
          simp
          omega
      have HD : Hid (wr.ownsMap Tryz.prog 9 (plainElem Tryz.prog 3) w.heap.size ((l.map (fun h => h.x.key)).take k).length D) := hD
      clear hD hs1 hs2 e HM hb
      go_wp2_with (at_len; refine wpList_len_own _ rfl (.tmp 21) 168 rfl 9 3 Tryz.underlying168 _ w.heap.size _ D rfl HD.out ?_)
      go_ret
      exact ⟨ret_bool HE.out, HB.out⟩
end Go.Proofs.YtaphofdcoddopaaGreatDoor
/-
  Entries that a call itself grows: cells, appending.
-/
namespace Go.Proofs.YtaphofdcoddopaaGreatDoor
open Go.ChangeShapes Go.WideShapes Go.ChangeAt Go.RowKit Go.Sort
def entsW (l : List (Ent × EntR)) : List Value := l.flatMap (fun q => entW q.1 q.2)
theorem entsW_cons (q : Ent × EntR) (l : List (Ent × EntR)) : entsW (q :: l) = entW q.1 q.2 ++ entsW l := by simp [entsW]
theorem entsW_app (l m : List (Ent × EntR)) : entsW (l ++ m) = entsW l ++ entsW m := by simp [entsW]
theorem entW_len (x : Ent) (r : EntR) : (entW x r).length = 13 := rfl
theorem entsW_len (l : List (Ent × EntR)) : (entsW l).length = l.length * 13 := by
  induction l with
  | nil => rfl
  | cons r l ih => rw [entsW_cons, List.length_append, entW_len, ih, List.length_cons]; omega
theorem entsW_at (l : List (Ent × EntR)) : ∀ (i : Nat) q, l[i]? = some q → ∀ j, j < 13 → (entsW l)[i * 13 + j]? = (entW q.1 q.2)[j]? := by
  induction l with
  | nil => intro i r hr; simp at hr
  | cons x l ih =>
    intro i q hr j hj
    rw [entsW_cons]
    cases i with
    | zero =>
      simp at hr; subst hr
      rw [Nat.zero_mul, Nat.zero_add, List.getElem?_append_left (by rw [entW_len]; exact hj)]
    | succ i =>
      have := ih i q (by simpa using hr) j hj
      rw [List.getElem?_append_right (by rw [entW_len]; omega), entW_len, show (i + 1) * 13 + j - 13 = i * 13 + j from by omega]
      exact this
theorem entsW_cells {w : World} {b off : Nat} {l : List (Ent × EntR)} (h : EntsAt w b off l) : ∀ j u, (entsW l)[j]? = some u → w.cell? ((⟨b, off, none⟩ : Addr).add j) = some u := by
  intro j u hj
  have hadd : (⟨b, off, none⟩ : Addr).add j = ⟨b, off + j, none⟩ := by unfold Addr.add; split <;> simp_all
  rw [hadd]
  have hlt : j < (entsW l).length := (List.getElem?_eq_some_iff.1 hj).1
  rw [entsW_len] at hlt
  have hm : j / 13 * 13 + j % 13 = j := by omega
  obtain ⟨q, hr⟩ : ∃ r, l[j / 13]? = some r := ⟨l[j / 13]'(by omega), List.getElem?_eq_getElem _⟩
  have e := entsW_at l (j / 13) q hr (j % 13) (by omega)
  have c := (h (j / 13) q hr).1 (j % 13) (by omega)
  rw [hm] at e
  rw [Nat.add_assoc, hm] at c
  rw [c, ← e, hj]
theorem entsW_one (l : List (Ent × EntR)) : ∀ u ∈ entsW l, u.oneCell' = true := by
  intro u hu
  simp only [entsW, List.mem_flatMap] at hu
  obtain ⟨r, _, hr⟩ := hu
  simp only [entW, List.mem_cons, List.not_mem_nil, or_false] at hr
  rcases hr with rfl | rfl | rfl | rfl | rfl | rfl | rfl | rfl | rfl | rfl | rfl | rfl | rfl <;> rfl
/-- v, nil or not, holds the entries l in a row of the call's own, from block base on. -/
def OwnE (w : World) (base : Nat) (v : Value) (l : List (Ent × EntR)) : Prop := w.ownsRow base 54 13 v l.length (entsW l)
theorem OwnE.nil (w : World) (base : Nat) : OwnE w base (.slice none 0 0) [] := World.ownsRow_nil _ _ _ _
theorem OwnE.made0 (w : World) (base : Nat) (hb : base ≤ w.heap.size) : OwnE (w.alloc (.cells #[] 54)) base (.slice (some ⟨w.heap.size, 0, none⟩) 0 0) [] := World.ownsRow_made w #[] 0 hb (by unfold maxLen; omega) rfl
theorem OwnE.below {w w' : World} {base : Nat} {v : Value} {l : List (Ent × EntR)} (h : OwnE w base v l) (hb : Below w.heap.size w w') : OwnE w' base v l := by
  obtain ⟨h1, h2⟩ := h
  refine ⟨h1, ?_⟩
  rcases h2 with h2 | ⟨g, c, cur, e, hg, hh, hrest⟩
  · exact .inl h2
  · exact .inr ⟨g, c, cur, e, hg, by rw [hb.block g (Array.getElem?_eq_some_iff.1 hh).1]; exact hh, hrest⟩
theorem OwnE.lower {w : World} {b0 base : Nat} {v : Value} {l : List (Ent × EntR)} (h : OwnE w base v l) (hb : b0 ≤ base) : OwnE w b0 v l := by
  obtain ⟨h1, h2⟩ := h
  refine ⟨h1, ?_⟩
  rcases h2 with h2 | ⟨g, c, cur, e, hg, hrest⟩
  · exact .inl h2
  · exact .inr ⟨g, c, cur, e, by omega, hrest⟩
theorem OwnE.at {w : World} {base : Nat} {v : Value} {l : List (Ent × EntR)} (h : OwnE w base v l) (hin : ∀ q ∈ l, EntIn w q.1 q.2) : ∃ a c, v = .slice a l.length c ∧ l.length ≤ c ∧ EntsIn w a l := by
  have h0 := h
  obtain ⟨_, h1 | ⟨g, c, cur, rfl, _, _, hc, _⟩⟩ := h
  · have e : l = [] := List.eq_nil_of_length_eq_zero h1.2
    exact ⟨none, 0, by rw [h1.1, e]; rfl, by rw [e]; exact Nat.le_refl _, .inl e⟩
  · refine ⟨_, c, rfl, hc, .inr ⟨g, 0, rfl, fun i q hr => ⟨fun j hj => ?_, hin q (List.mem_of_getElem? hr)⟩⟩⟩
    have hi := (List.getElem?_eq_some_iff.1 hr).1
    have c1 := World.ownsRow.cellAt h0 (i * 13 + j) (by omega)
    rw [Nat.zero_add, c1, entsW_at l i q hr j hj]
theorem own_geE {w : World} {base : Nat} {v : Value} {l : List (Ent × EntR)} (h : OwnE w base v l) (q : Nat) (hq : v.ownBlock = some q) : base ≤ q := by
  obtain ⟨_, h | ⟨g, c, cur, rfl, hg, _⟩⟩ := h
  · rw [h.1] at hq; cases hq
  · simp only [Value.ownBlock, Option.some.injEq] at hq; omega
theorem append_zeroE {P : Program} (w : World) (t ty e : TypeId) (i : TypeInfo) (ht : P.underlying t = some (.slice e)) (hi : P.info? e = some i) (base : Option Addr) (n k : Nat) (hle : n ≤ k) (pb : Option Addr) (c : Nat) :
    (Builtin.append_ #[t, t] ty #[.slice base n k, .slice pb 0 c]).run P w = .ok (.slice base n k) w := by
  cases base <;> cases pb <;> simp [Builtin.append_, run_underlying ht, sizeOf, typeInfo, hi, Builtin.lenOf, Builtin.firstCells, hle, storeCells, loadCells, loadCellsFrom]
theorem OwnE.form {w : World} {base : Nat} {v : Value} {l : List (Ent × EntR)} (h : OwnE w base v l) : ∃ va vc, v = .slice va l.length vc ∧ l.length ≤ vc := by
  obtain ⟨_, h1 | ⟨g, c2, cur, e2, _, _, hc2, _⟩⟩ := h
  · have e : l = [] := List.eq_nil_of_length_eq_zero h1.2
    subst e
    exact ⟨none, 0, h1.1, Nat.le_refl _⟩
  · exact ⟨_, c2, e2, hc2⟩
theorem wp_append_entsIn {o : Oper} {a : Act} {K : Act → World → Prop} {Q : Exit → Act → World → Prop} (w : World) (s x : Operand)
    (ho : o.op = .call { callee := .builtin .append, args := #[s, x], argTypes := #[26, 26] })
    (base : Nat) (v : Value) (l0 : List (Ent × EntR)) (pa : Option Addr) (cap m : Nat) (l : List (Ent × EntR)) (hm : l.length = m)
    (hs : a.eval s = v) (hown : OwnE w base v l0) (hx : a.eval x = .slice pa m cap) (hat : EntsIn w pa l) (hl : l0.length + m ≤ 1000000) (hbase : base ≤ w.heap.size)
    (h : ∀ v' w', OwnE w' base v' (l0 ++ l) → Below base w w' → K (a.put o.dst v') w') :
    Oper.wp Tryz.prog o a w K Q := by
  obtain ⟨i0, hi, hz0, hz1, hz2⟩ := info_parts infoEntry
  rcases hat with rfl | ⟨b, off, rfl, hat⟩
  · obtain ⟨va, vc, rfl, hle⟩ := hown.form
    simp only [List.length_nil] at hm
    subst hm
    unfold Oper.wp execOp
    simp only [ho, resolve, invoke, builtin, Sem.run_bind, Sem.run_pure, Result.andThen_ok, List.map_toArray, List.map_cons, List.map_nil, hs, hx]
    rw [append_zeroE w 26 _ 54 i0 Tryz.underlying26 hi va l0.length vc hle pa cap]
    exact h _ w (by simpa using hown) (Below.refl _ _)
  · by_cases h0 : 0 < m
    · refine wp_append_lies w s x 26 ho base 54 i0 _ 13 152 Tryz.underlying26 hi hz0 hz1 hz2 rfl (by omega) v l0.length (entsW l0) hs hown ⟨b, off, none⟩ m cap (entsW l) hx (by rw [entsW_len, hm]) (entsW_cells hat) (entsW_one l) h0 (by unfold maxLen; omega) (by omega) hbase _ rfl ?_
      intro g c w' h1 h2 h3 h4
      refine h _ w' ?_ ((Below.refl base w).grown h2 hbase (fun q hq => own_geE hown q hq))
      unfold OwnE
      rw [entsW_app, List.length_append, hm]
      exact h1
    · have : m = 0 := by omega
      subst this
      have : l = [] := List.eq_nil_of_length_eq_zero hm
      subst this
      obtain ⟨va, vc, rfl, hle⟩ := hown.form
      unfold Oper.wp execOp
      simp only [ho, resolve, invoke, builtin, Sem.run_bind, Sem.run_pure, Result.andThen_ok, List.map_toArray, List.map_cons, List.map_nil, hs, hx]
      rw [append_zeroE w 26 _ 54 i0 Tryz.underlying26 hi va l0.length vc hle _ cap]
      exact h _ w (by simpa using hown) (Below.refl _ _)
theorem step_append_entsIn {ops : Array Oper} {o : Oper} {a : Act} {K : Act → World → Prop} {Q : Exit → Act → World → Prop} {E : Prop} (w : World) (hgd : o.guard = none) (s x : Operand)
    (ho : o.op = .call { callee := .builtin .append, args := #[s, x], argTypes := #[26, 26] })
    (base : Nat) (v : Value) (l0 : List (Ent × EntR)) (pa : Option Addr) (cap m : Nat) (l : List (Ent × EntR)) (hm : l.length = m)
    (hs : a.eval s = v) (hown : OwnE w base v l0) (hx : a.eval x = .slice pa m cap) (hat : EntsIn w pa l) (hl : l0.length + m ≤ 1000000) (hbase : base ≤ w.heap.size)
    (h : ∀ v' w', OwnE w' base v' (l0 ++ l) → Below base w w' → K (a.put o.dst v') w') :
    if Region.wanted o (yielded ops a.tmps) = true then Oper.wp Tryz.prog o a w K Q else E := by
  have hw : Region.wanted o (yielded ops a.tmps) = true := by simp [Region.wanted, hgd]
  rw [if_pos hw]
  exact wp_append_entsIn w s x ho base v l0 pa cap m l hm hs hown hx hat hl hbase h
theorem wpList_append_entsIn {ops : Array Oper} {rest : List Oper} {o : Oper} {a : Act} {Q : Exit → Act → World → Prop} (w : World) (hgd : o.guard = none) (s x : Operand)
    (ho : o.op = .call { callee := .builtin .append, args := #[s, x], argTypes := #[26, 26] })
    (base : Nat) (v : Value) (l0 : List (Ent × EntR)) (pa : Option Addr) (cap m : Nat) (l : List (Ent × EntR)) (hm : l.length = m)
    (hs : a.eval s = v) (hown : OwnE w base v l0) (hx : a.eval x = .slice pa m cap) (hat : EntsIn w pa l) (hl : l0.length + m ≤ 1000000) (hbase : base ≤ w.heap.size)
    (h : ∀ v' w', OwnE w' base v' (l0 ++ l) → Below base w w' → wpList Tryz.prog ops Q rest (a.put o.dst v') w') :
    wpList Tryz.prog ops Q (o :: rest) a w :=
  wpList_plain hgd fun _ hK => wp_append_entsIn w s x ho base v l0 pa cap m l hm hs hown hx hat hl hbase fun v' w' h1 h2 => hK _ _ (h v' w' h1 h2)
end Go.Proofs.YtaphofdcoddopaaGreatDoor
/-
  All entries of a store, by the model.
-/
namespace Go.Proofs.YtaphofdcoddopaaGreatDoor
open Go.ChangeShapes Go.WideShapes Go.ChangeAt Go.RowKit Go.Sort
set_option maxRecDepth 100000 in
set_option maxHeartbeats 8000000 in
theorem l8All_any (w : World) (S o : Nat) (ta ka : Option Addr) (tc kc : Nat) (tl kl : List (Ent × EntR)) (c2 : w.cell? ⟨S, o + 2, none⟩ = some (.slice ta tl.length tc)) (c3 : w.cell? ⟨S, o + 3, none⟩ = some (.slice ka kl.length kc)) (hl : tl.length + kl.length ≤ 1000000) (ht : EntsIn w ta tl) (hk : EntsIn w ka kl) :
    Calls Tryz.prog 103 #[.pointer (some ⟨S, o, none⟩)] w fun e w' => (∃ v, e = .returned v ∧ OwnE w' w.heap.size v (tl ++ kl)) ∧ Below w.heap.size w w' := by
  have hlt : S < w.heap.size := block_lt_of_cell c2
  have HKS : Hid (∀ X, Below w.heap.size w X → X.cell? ⟨S, o + 2, none⟩ = some (.slice ta tl.length tc) ∧ X.cell? ⟨S, o + 3, none⟩ = some (.slice ka kl.length kc)) := fun X hX => ⟨by rw [hX.cell (p := ⟨S, o + 2, none⟩) hlt]; exact c2, by rw [hX.cell (p := ⟨S, o + 3, none⟩) hlt]; exact c3⟩
  have HI : Hid (∀ X, Below w.heap.size w X → EntsIn X ta tl ∧ EntsIn X ka kl) := fun X hX => ⟨ht.keep hX, hk.keep hX⟩
  have B0 : Hid (Below w.heap.size w w.drew) := (Below.refl _ _).drew
  have B1 : Hid (Below w.heap.size w (w.drew.alloc (.cells #[] 54))) := ((Below.refl _ _).drew).alloc (Nat.le_refl _) _
  have O1 : Hid (OwnE (w.drew.alloc (.cells #[] 54)) w.heap.size (.slice (some ⟨w.heap.size, 0, none⟩) 0 0) []) := OwnE.made0 w.drew w.heap.size (Nat.le_refl _)
  clear c2 c3 ht hk
  obtain ⟨tn, htn⟩ : ∃ n, Hid (tl.length = n) := ⟨_, rfl⟩
  obtain ⟨kn, hkn⟩ : ∃ n, Hid (kl.length = n) := ⟨_, rfl⟩
  rw [htn.out, hkn.out] at HKS hl
  go_enter Tryz.func103, Tryz.ntmps103
  go_wp2_with fail
  go_region_held3 (fun X => X.cell? ⟨S, o + 2, none⟩ = some (.slice ta tn tc) ∧ X.cell? ⟨S, o + 3, none⟩ = some (.slice ka kn kc))
    (first | exact HKS.out _ BB.out | exact HKS.out _ BA.out | exact HKS.out _ B1.out | exact HKS.out _ B0.out)
    (first
    | (refine step_append_entsIn _ (by rfl) _ _ (by rfl) w.heap.size _ tl ka kc kn kl hkn.out (by rfl) OA.out (by rfl) (HI.out _ BA.out).2 (by rw [htn.out]; exact hl) BA.out.size ?_; intro v2 w2 ho2 hb2; have BB : Hid (Below w.heap.size w w2) := BA.out.trans hb2; have OB : Hid (OwnE w2 w.heap.size v2 (tl ++ kl)) := ho2; clear ho2 hb2)
    | (refine step_append_entsIn _ (by rfl) _ _ (by rfl) w.heap.size _ [] ta tc tn tl htn.out (by rfl) O1.out (by rfl) (HI.out _ B1.out).1 (by simp; omega) B1.out.size ?_; intro v1 w1 ho1 hb1; have BA : Hid (Below w.heap.size w w1) := B1.out.trans hb1; have OA : Hid (OwnE w1 w.heap.size v1 tl) := ho1; clear ho1 hb1))
  all_goals
    go_wp2_with fail
    go_ret
    exact ⟨⟨_, rfl, OB.out⟩, BB.out⟩
end Go.Proofs.YtaphofdcoddopaaGreatDoor
/-
  Is it a store? The specification's answer.
-/
namespace Go.Proofs.YtaphofdcoddopaaGreatDoor
open Go.ChangeShapes Go.WideShapes Go.ChangeAt Go.RowKit Go.Sort
/-- An entry that fits, its key too. -/
structure EntOk (x : Ent) : Prop where
  key : x.key.size ≤ maxLen
  h : x.hs.length ≤ 1048576
  b : x.bl.length ≤ maxLen
  t : x.ts.length ≤ maxLen
theorem specEntry_q (w : World) (q : Ent × EntR) (ho : EntOk q.1) (hi : EntIn w q.1 q.2) :
    Calls Tryz.prog 69 #[.agg #[.string q.1.key, .int .i64 q.1.st, .slice q.2.ha q.1.hs.length q.2.hc, .slice q.2.ba q.1.bl.length q.2.bc, .int .i64 q.1.t, .int .i64 q.1.g, .int .i64 q.1.l, .int .i64 q.1.s, .int .i64 q.1.e, .bool q.1.b1, .bool q.1.b2, .slice q.2.ta q.1.ts.length q.2.tc, .int .i64 q.1.pins]] w fun r w' => r = .returned (.int .i64 (entC q.1)) ∧ Below w.heap.size w w' :=
  specEntry_any w _ _ _ _ _ _ _ _ _ _ _ _ _ _ _ _ _ _ _ ho.key ho.h ho.b ho.t hi.h
theorem faultE_drop {l : List (Ent × EntR)} {k : Nat} {q : Ent × EntR} (h : l[k]? = some q) : faultE ((l.map Prod.fst).drop k) = if entC q.1 ≠ 0 then entC q.1 else faultE ((l.map Prod.fst).drop (k + 1)) := by
  obtain ⟨hk, rfl⟩ := List.getElem?_eq_some_iff.1 h
  rw [List.drop_eq_getElem_cons (i := k) (by simpa using hk), faultE]
  simp
theorem keys_at {l : List (Ent × EntR)} {k : Nat} {q : Ent × EntR} (h : l[k]? = some q) : (keysE (l.map Prod.fst))[k]? = some q.1.key.toList := by
  unfold keysE
  rw [List.getElem?_map, List.getElem?_map, h]
  rfl
theorem nodup_succ {K : List (List UInt8)} {k : Nat} {x : List UInt8} (h : (K.take k).Nodup) (hk : K[k]? = some x) (hn : ∀ (j : Nat) y, j < k → K[j]? = some y → ¬ x = y) : (K.take (k + 1)).Nodup := by
  obtain ⟨hlt, rfl⟩ := List.getElem?_eq_some_iff.1 hk
  rw [List.take_succ_eq_append_getElem hlt]
  refine List.nodup_append.2 ⟨h, by simp, ?_⟩
  intro a ha b hb
  simp only [List.mem_singleton] at hb
  subst hb
  obtain ⟨j, hj⟩ := List.mem_iff_getElem?.1 ha
  have hjk : j < k := by
    have := (List.getElem?_eq_some_iff.1 hj).1
    simp at this; omega
  rw [List.getElem?_take_of_lt hjk] at hj
  exact fun e => hn j a hjk hj e.symm
theorem dup_of {l : List (Ent × EntR)} {j k : Nat} {p q : Ent × EntR} (hjk : j < k) (hj : l[j]? = some p) (hk : l[k]? = some q) (e : q.1.key.toList = p.1.key.toList) : dupE (l.map Prod.fst) = true := by
  unfold dupE
  rw [Bool.not_eq_true', decide_eq_false_iff_not]
  intro hn
  have a := keys_at hj
  have b := keys_at hk
  rw [e] at b
  obtain ⟨h1, e1⟩ := List.getElem?_eq_some_iff.1 a
  obtain ⟨h2, e2⟩ := List.getElem?_eq_some_iff.1 b
  have := List.pairwise_iff_getElem.1 hn j k h1 h2 hjk
  rw [e1, e2] at this
  exact this rfl
set_option maxRecDepth 100000 in
set_option maxHeartbeats 16000000 in
theorem specSto_any (w : World) (bu gu : Int) (ta ka : Option Addr) (tc kc : Nat) (tl kl : List (Ent × EntR)) (hl : tl.length ≤ 1048576) (hk : kl.length ≤ 1048576) (hto : ∀ q ∈ tl ++ kl, EntOk q.1) (ht : EntsIn w ta tl) (hq : EntsIn w ka kl) :
    Calls Tryz.prog 68 #[.agg #[.int .i64 bu, .int .i64 gu, .slice ta tl.length tc, .slice ka kl.length kc]] w fun r w' => r = .returned (.int .i64 (storeC bu gu (tl.map Prod.fst) (kl.map Prod.fst))) ∧ Below w.heap.size w w' := by
  obtain ⟨W, hW⟩ : ∃ W, W = w.alloc (.cells #[.int .i64 bu, .int .i64 gu, .slice ta tl.length tc, .slice ka kl.length kc] 28) := ⟨_, rfl⟩
  have HW : Hid (W = w.alloc (.cells #[.int .i64 bu, .int .i64 gu, .slice ta tl.length tc, .slice ka kl.length kc] 28)) := hW
  have K0 : Hid (Below w.heap.size w W ∧ S4 W w.heap.size (.int .i64 bu) (.int .i64 gu) (.slice ta tl.length tc) (.slice ka kl.length kc)) := by
    rw [hW]; exact ⟨(Below.refl _ _).alloc (Nat.le_refl _) _, S4.new w _ _ _ _ _⟩
  have HI1 : Hid (∀ w, Calls Tryz.prog 59 #[.int .i64 bu, .int .i64 0, .int .i64 1000000] w fun r w' => r = .returned (.bool (decide (0 ≤ bu) && decide (bu ≤ 1000000))) ∧ w' = w) := l1In_all bu 0 1000000
  have HI2 : Hid (∀ w, Calls Tryz.prog 59 #[.int .i64 gu, .int .i64 0, .int .i64 bu] w fun r w' => r = .returned (.bool (decide (0 ≤ gu) && decide (gu ≤ bu))) ∧ w' = w) := l1In_all gu 0 bu
  obtain ⟨Z, hZ⟩ : ∃ Z, storeC bu gu (tl.map Prod.fst) (kl.map Prod.fst) = Z := ⟨_, rfl⟩
  rw [hZ]
  unfold storeC at hZ
  rw [← List.map_append, List.length_map, List.length_map] at hZ
  have HZ : Hid (_ = Z) := hZ
  have HALL : Hid (tl.length + kl.length ≤ 40 → Calls Tryz.prog 103 #[.pointer (some ⟨w.heap.size, 0, none⟩)] W fun e w' => (∃ v, e = .returned v ∧ OwnE w' W.heap.size v (tl ++ kl)) ∧ Below W.heap.size W w') := fun h40 => l8All_any W w.heap.size 0 ta ka tc kc tl kl K0.out.2.c2 K0.out.2.c3 (by omega) (ht.keep K0.out.1) (hq.keep K0.out.1)
  have HIN : Hid (∀ X, Below w.heap.size w X → (∀ q ∈ tl ++ kl, EntIn X q.1 q.2) ∧ EntsIn X ka kl) := fun X hX => by
    refine ⟨fun q hq' => ?_, hq.keep hX⟩
    rcases List.mem_append.1 hq' with h | h
    · rcases ht.keep hX with e | ⟨b, off, _, hat⟩
      · subst e; simp at h
      · obtain ⟨i, hi⟩ := List.mem_iff_getElem?.1 h; exact hat.in hi
    · rcases hq.keep hX with e | ⟨b, off, _, hat⟩
      · subst e; simp at h
      · obtain ⟨i, hi⟩ := List.mem_iff_getElem?.1 h; exact hat.in hi
  have HOK : Hid (∀ q ∈ tl ++ kl, EntOk q.1) := hto
  clear hZ hW ht hq hto
  have hlen : (tl ++ kl).length = tl.length + kl.length := by simp
  have HKL : Hid (∀ q ∈ kl, q ∈ tl ++ kl) := fun q hq => List.mem_append_right _ hq
  obtain ⟨al, hal⟩ : ∃ al, Hid (tl ++ kl = al) := ⟨_, rfl⟩
  rw [hal.out] at HALL HIN HOK HKL hlen
  rw [hal.out] at HZ
  clear hal
  obtain ⟨tn, htn⟩ : ∃ n, Hid (tl.length = n) := ⟨_, rfl⟩
  obtain ⟨kn, hkn⟩ : ∃ n, Hid (kl.length = n) := ⟨_, rfl⟩
  rw [htn.out, hkn.out] at K0 HZ HALL HW hlen
  rw [htn.out] at hl
  rw [hkn.out] at hk
  rw [htn.out, hkn.out]
  have HLN : Hid (al.length = tn + kn) := hlen
  clear hlen htn
  by_cases c1 : bu < 0 ∨ 1000000 < bu
  · have HR : Hid (3 = Z) := by have := HZ.out; rw [if_pos (by omega)] at this; exact this
    have e1 : (decide (0 ≤ bu) && decide (bu ≤ 1000000)) = false := by simp; omega
    rw [e1] at HI1
    clear HZ HALL HIN HOK
    go_enter Tryz.func68, Tryz.ntmps68
    go_wp2_with fail
    refine (HI1.out _).mono ?_
    rintro r w1 ⟨rfl, rfl⟩
    go_wp2_with fail
    go_ret
    exact ⟨ret_int HR.out, HW.out ▸ K0.out.1⟩
  have e1 : (decide (0 ≤ bu) && decide (bu ≤ 1000000)) = true := by simp; omega
  rw [e1] at HI1
  clear e1
  by_cases c2 : gu < 0 ∨ bu < gu
  · have HR : Hid (3 = Z) := by have := HZ.out; rw [if_pos (by omega)] at this; exact this
    have e1 : (decide (0 ≤ gu) && decide (gu ≤ bu)) = false := by simp; omega
    rw [e1] at HI2
    clear HZ HALL HIN HOK
    go_enter Tryz.func68, Tryz.ntmps68
    go_wp2_with fail
    refine (HI1.out _).mono ?_
    rintro r w1 ⟨rfl, rfl⟩
    go_wp2_with fail
    refine (HI2.out _).mono ?_
    rintro r w1 ⟨rfl, rfl⟩
    go_wp2_with fail
    go_ret
    exact ⟨ret_int HR.out, HW.out ▸ K0.out.1⟩
  have e1 : (decide (0 ≤ gu) && decide (gu ≤ bu)) = true := by simp; omega
  rw [e1] at HI2
  clear e1
  rw [if_neg (by omega)] at HZ
  have ew : IntKind.i64.wrap ((tn : Int) + (kn : Int)) = (tn : Int) + (kn : Int) := by
    unfold IntKind.wrap; simp [IntKind.signed, IntKind.bits]; omega
  by_cases c3 : 40 < tn + kn
  · have HR : Hid (2 = Z) := by have := HZ.out; rw [if_pos c3] at this; exact this
    have g3 : (40 : Int) < (tn : Int) + (kn : Int) := by omega
    clear HZ HALL HIN HOK
    go_enter Tryz.func68, Tryz.ntmps68
    go_wp2_with fail
    refine (HI1.out _).mono ?_
    rintro r w1 ⟨rfl, rfl⟩
    go_wp2_with fail
    refine (HI2.out _).mono ?_
    rintro r w1 ⟨rfl, rfl⟩
    go_wp2_with fail
    go_ret
    exact ⟨ret_int HR.out, HW.out ▸ K0.out.1⟩
  have HZ2 : Hid ((if faultE (al.map Prod.fst) ≠ 0 then faultE (al.map Prod.fst) else if dupE (al.map Prod.fst) = true then 6 else if bu < costsE (al.map Prod.fst) ∨ gu < costsE (kl.map Prod.fst) then 7 else 0) = Z) := by have := HZ.out; rw [if_neg c3] at this; exact this
  have g3 : ¬ (40 : Int) < (tn : Int) + (kn : Int) := by omega
  clear HZ
  have C0 := HALL.out (by omega)
  have CA : Hid (Calls Tryz.prog 103 #[.pointer (some ⟨w.heap.size, 0, none⟩)] W fun e w' => (∃ v, e = .returned v ∧ OwnE w' W.heap.size v al) ∧ Below W.heap.size W w') := C0
  clear HALL C0
  go_enter Tryz.func68, Tryz.ntmps68
  go_wp2_with fail
  refine (HI1.out _).mono ?_
  rintro r w1 ⟨rfl, rfl⟩
  go_wp2_with fail
  refine (HI2.out _).mono ?_
  rintro r w1 ⟨rfl, rfl⟩
  go_wp2_with fail
  rw [← HW.out]
  refine CA.out.mono ?_
  rintro r w1 ⟨⟨v, rfl, hown⟩, hb1⟩
  have hb1' := K0.out.1.trans (hb1.mono K0.out.1.size)
  obtain ⟨aa, ac, rfl, _, hae⟩ := hown.at (HIN.out _ hb1').1
  have K1 : Hid (Below w.heap.size w w1 ∧ S4 w1 w.heap.size (.int .i64 bu) (.int .i64 gu) (.slice ta tn tc) (.slice ka kn kc)) := ⟨hb1', K0.out.2.keep hb1⟩
  have HAE : Hid (EntsIn w1 aa al) := hae
  have HKI : Hid (EntsIn w1 ka kl) := (HIN.out _ hb1').2
  clear hb1 hb1' hown K0 HW CA HIN hae
  rw [HLN.out]
  obtain ⟨n, hn⟩ : ∃ n, tn + kn = n := ⟨_, rfl⟩
  rw [hn] at HLN ⊢
  have hn40 : n ≤ 40 := by omega
  have HSUM : Hid (tn + kn = n) := hn
  clear hn
  go_wp2_with fail
  go_loopw [4] (fun i wr => ∃ k : Nat, k ≤ n ∧ i = .int .i64 k ∧ faultE (al.map Prod.fst) = faultE ((al.map Prod.fst).drop k) ∧ Below w1.heap.size w1 wr) (fun i _ => n - (intOf i).toNat)
  case atStart => exact ⟨0, Nat.zero_le _, rfl, rfl, Below.refl _ _⟩
  case round =>
    obtain ⟨k, hk, rfl, hs, hb⟩ := hrel
    have HS : Hid (faultE (al.map Prod.fst) = faultE ((al.map Prod.fst).drop k)) := hs
    clear hs
    by_cases hlt : k < n
    · obtain ⟨q, hr⟩ : ∃ r, al[k]? = some r := ⟨al[k]'(by have := HLN.out; omega), List.getElem?_eq_getElem _⟩
      rcases HAE.out with h | ⟨b, off, rfl, hat⟩
      · subst h; simp at hr
      have PC := (hat.keep hb).cells hr
      have C : Hid (∀ X, Below w1.heap.size w1 X → Calls Tryz.prog 69 #[.agg #[.string q.1.key, .int .i64 q.1.st, .slice q.2.ha q.1.hs.length q.2.hc, .slice q.2.ba q.1.bl.length q.2.bc, .int .i64 q.1.t, .int .i64 q.1.g, .int .i64 q.1.l, .int .i64 q.1.s, .int .i64 q.1.e, .bool q.1.b1, .bool q.1.b2, .slice q.2.ta q.1.ts.length q.2.tc, .int .i64 q.1.pins]] X fun r w' => r = .returned (.int .i64 (entC q.1)) ∧ Below X.heap.size X w') := fun X hX => specEntry_q X q (HOK.out q (List.mem_of_getElem? hr)) ((hat.keep hX).in hr)
      have HD : Hid (faultE (al.map Prod.fst) = if entC q.1 ≠ 0 then entC q.1 else faultE ((al.map Prod.fst).drop (k + 1))) := by show _ = _; rw [HS.out, faultE_drop hr]
      have g : (k : Int) < n := by omega
      have g0 : (0 : Int) ≤ k := by omega
      have HB : Hid (Below w1.heap.size w1 wr) := hb
      have p0 := PC.1
      have p1 := PC.2.1
      have p2 := PC.2.2.1
      have p3 := PC.2.2.2.1
      have p4 := PC.2.2.2.2.1
      have p5 := PC.2.2.2.2.2.1
      have p6 := PC.2.2.2.2.2.2.1
      have p7 := PC.2.2.2.2.2.2.2.1
      have p8 := PC.2.2.2.2.2.2.2.2.1
      have p9 := PC.2.2.2.2.2.2.2.2.2.1
      have p10 := PC.2.2.2.2.2.2.2.2.2.2.1
      have p11 := PC.2.2.2.2.2.2.2.2.2.2.2.1
      have p12 := PC.2.2.2.2.2.2.2.2.2.2.2.2
      clear PC hr hat HS hb
      generalize entC q.1 = ec at *
      go_wp2_with fail
      refine (C.out _ HB.out).mono ?_
      rintro r w2 ⟨rfl, hb2⟩
      have HB2 : Hid (Below w1.heap.size w1 w2) := HB.out.trans (hb2.mono HB.out.size)
      clear hb2 C HB p0 p1 p2 p3 p4 p5 p6 p7 p8 p9 p10 p11 p12
      by_cases ce : ec = 0
      · have HE : Hid (faultE (al.map Prod.fst) = faultE ((al.map Prod.fst).drop (k + 1))) := by show _ = _; rw [HD.out, if_neg (by simpa using ce)]
        clear HD
        subst ce
        go_wp2_with fail
        go_roundw
        case rel => exact ⟨k + 1, by omega, by go_num, HE.out, HB2.out⟩
        case measure => simp [intOf]; omega
      · have HE : Hid (ec = Z) := by
          show _ = _
          have := HZ2.out
          rw [HD.out, if_pos ce, if_pos ce] at this
          exact this
        clear HD
        go_wp2_with fail
        go_ret
        exact ⟨ret_int HE.out, K1.out.1.trans (HB2.out.mono K1.out.1.size)⟩
    · have HF0 : faultE (al.map Prod.fst) = 0 := by
        rw [HS.out, List.drop_of_length_le (by have := HLN.out; simp; omega), faultE]
      have HZ3 : Hid ((if dupE (al.map Prod.fst) = true then 6 else if bu < costsE (al.map Prod.fst) ∨ gu < costsE (kl.map Prod.fst) then 7 else 0) = Z) := by
        show _ = _
        have := HZ2.out
        rw [HF0] at this
        simpa using this
      have HEC : Hid (∀ q ∈ al, entC q.1 = 0) := fun q hq => faultE_zero HF0 q.1 (List.mem_map_of_mem hq)
      have HB1 : Hid (Below w1.heap.size w1 wr) := hb
      clear HS HF0 HZ2 HOK hb
      go_wp2_with fail
      obtain ⟨wo, rfl⟩ : ∃ wo : World, wo = wr := ⟨_, rfl⟩
      go_loopw [6] (fun i wr => ∃ k : Nat, k ≤ n ∧ i = .int .i64 k ∧ ((keysE (al.map Prod.fst)).take k).Nodup ∧ Below w1.heap.size w1 wr) (fun i _ => n - (intOf i).toNat)
      case atStart => exact ⟨0, Nat.zero_le _, rfl, by simp, HB1.out⟩
      case round =>
        obtain ⟨i, hi, rfl, hnd, hbi⟩ := hrel
        have HND : Hid (((keysE (al.map Prod.fst)).take i).Nodup) := hnd
        have HBI : Hid (Below w1.heap.size w1 wr) := hbi
        clear hnd hbi HB1
        by_cases hli : i < n
        · obtain ⟨q, hr⟩ : ∃ r, al[i]? = some r := ⟨al[i]'(by have := HLN.out; omega), List.getElem?_eq_getElem _⟩
          have HQ : Hid (al[i]? = some q) := hr
          clear hr
          have gi : (i : Int) < n := by omega
          go_wp2_with fail
          obtain ⟨wp, rfl⟩ : ∃ wp : World, wp = wr := ⟨_, rfl⟩
          go_loopw [7] (fun x wr => ∃ j : Nat, j ≤ i ∧ x = .int .i64 j ∧ (∀ (j' : Nat) y, j' < j → (keysE (al.map Prod.fst))[j']? = some y → ¬ q.1.key.toList = y) ∧ Below w1.heap.size w1 wr) (fun x _ => i - (intOf x).toNat)
          case atStart => exact ⟨0, Nat.zero_le _, rfl, fun j' y h => absurd h (by omega), HBI.out⟩
          case round =>
            obtain ⟨j, hj, rfl, hne, hbj⟩ := hrel
            have HNE : Hid (∀ (j' : Nat) y, j' < j → (keysE (al.map Prod.fst))[j']? = some y → ¬ q.1.key.toList = y) := hne
            have HBJ : Hid (Below w1.heap.size w1 wr) := hbj
            clear hne HBI
            by_cases hlj : j < i
            · obtain ⟨p, hp⟩ : ∃ r, al[j]? = some r := ⟨al[j]'(by have := HLN.out; omega), List.getElem?_eq_getElem _⟩
              rcases HAE.out with h | ⟨b, off, rfl, hat⟩
              · subst h; simp at hp
              have a1 := cell_regrown ((hat.keep hbj).cells HQ.out).1
              have a2 := cell_regrown ((hat.keep hbj).cells hp).1
              have HP : Hid (al[j]? = some p) := hp
              have gj : (j : Int) < i := by omega
              have gj0 : (0 : Int) ≤ j := by omega
              have gi0 : (0 : Int) ≤ i := by omega
              have gjn : (j : Int) < n := by omega
              clear hp hat hbj
              by_cases he : q.1.key.toList = p.1.key.toList
              · have HE : Hid (6 = Z) := by
                  show _ = _
                  have := HZ3.out
                  rw [if_pos (dup_of hlj HP.out HQ.out he)] at this
                  exact this
                have e1 : (q.1.key.toList == p.1.key.toList) = true := by simp [he]
                clear he HNE
                generalize q.1.key = qk at *
                generalize p.1.key = pk at *
                go_wp2_with fail
                refine wp_region_quiet_below (by kernel_rfl) (by kernel_rfl) ?_
                repeat (go_big_quiet_step (fail))
                refine wpQuiet_nil ?_
                intro w2 hw2
                have hbb : Below w1.heap.size w1 w2 := by
                  obtain ⟨⟨d, os⟩, rfl⟩ := hw2
                  exact HBJ.out.trans ((below_regrown wr d os).mono HBJ.out.size)
                clear a1 a2 hw2
                go_wp2_with fail
                go_ret
                exact ⟨ret_int HE.out, K1.out.1.trans (hbb.mono K1.out.1.size)⟩
              · have e1 : (q.1.key.toList == p.1.key.toList) = false := by simp [he]
                have HN2 : Hid (∀ (j' : Nat) y, j' < j + 1 → (keysE (al.map Prod.fst))[j']? = some y → ¬ q.1.key.toList = y) := by
                  intro j' y h1 h2
                  by_cases e : j' = j
                  · subst e
                    rw [keys_at HP.out] at h2
                    obtain rfl := Option.some.inj h2
                    exact he
                  · exact HNE.out j' y (by omega) h2
                clear he HNE
                obtain ⟨qk, hqk⟩ : ∃ k, q.1.key = k := ⟨_, rfl⟩
                obtain ⟨pk, hpk⟩ : ∃ k, p.1.key = k := ⟨_, rfl⟩
                rw [hqk] at a1 e1
                rw [hpk] at a2 e1
                go_wp2_with fail
                refine wp_region_quiet_below (by kernel_rfl) (by kernel_rfl) ?_
                repeat (go_big_quiet_step (fail))
                refine wpQuiet_nil ?_
                intro w2 hw2
                have hbb : Below w1.heap.size w1 w2 := by
                  obtain ⟨⟨d, os⟩, rfl⟩ := hw2
                  exact HBJ.out.trans ((below_regrown wr d os).mono HBJ.out.size)
                clear a1 a2 hw2
                go_wp2_with fail
                go_roundw
                case rel => exact ⟨j + 1, by omega, by go_num, HN2.out, hbb⟩
                case measure => simp [intOf]; omega
            · have hji : j = i := by omega
              subst hji
              have HN2 : Hid (((keysE (al.map Prod.fst)).take (j + 1)).Nodup) := nodup_succ HND.out (keys_at HQ.out) HNE.out
              clear HNE hbj
              go_wp2_with fail
              go_roundw
              case rel => exact ⟨j + 1, by omega, by go_num, HN2.out, HBJ.out⟩
              case measure => simp [intOf]; omega
        · have hd : dupE (al.map Prod.fst) = false := by
            have := HND.out
            rw [List.take_of_length_le (by have := HLN.out; unfold keysE; simp; omega)] at this
            unfold dupE
            simp [this]
          have HZ4 : Hid ((if bu < costsE (al.map Prod.fst) ∨ gu < costsE (kl.map Prod.fst) then 7 else 0) = Z) := by
            show _ = _
            have := HZ3.out
            rw [hd] at this
            simpa using this
          have hbi := HBI.out
          have KK := K1.out.2.keep hbi
          have cA : ∀ d os, Calls Tryz.prog 107 #[.slice aa n ac] (grow (redrawn wr d) os) fun e w'' => e = .returned (.int .i64 (costsE (al.map Prod.fst))) ∧ ∃ p : Regrown, w'' = grow (redrawn wr p.d) p.os := fun d os => Calls.regrown_of (by
            have := l8Costs_any (grow (redrawn wr d) os) aa ac al (by rw [HLN.out]; exact hn40) (HAE.out.keep (hbi.trans ((below_regrown wr d os).mono hbi.size))) HEC.out
            rw [HLN.out] at this
            exact this)
          have cK : ∀ d os, Calls Tryz.prog 107 #[.slice ka kn kc] (grow (redrawn wr d) os) fun e w'' => e = .returned (.int .i64 (costsE (kl.map Prod.fst))) ∧ ∃ p : Regrown, w'' = grow (redrawn wr p.d) p.os := fun d os => Calls.regrown_of (by
            have hsum := HSUM.out
            have := l8Costs_any (grow (redrawn wr d) os) ka kc kl (by rw [hkn.out]; omega) (HKI.out.keep (hbi.trans ((below_regrown wr d os).mono hbi.size))) (fun q hq => HEC.out q (HKL.out q hq))
            rw [hkn.out] at this
            exact this)
          have a0 := cell_regrown KK.c0
          have a1 := cell_regrown KK.c1
          have a3 := cell_regrown KK.c3
          have HBW : Hid (Below w.heap.size w wr) := K1.out.1.trans (hbi.mono K1.out.1.size)
          clear hd HZ3 HND HBI HEC KK hbi HAE HKI HKL K1 HI1 HI2
          generalize costsE (al.map Prod.fst) = ca at *
          generalize costsE (kl.map Prod.fst) = ck at *
          by_cases d1 : bu < ca
          · have HE : Hid (7 = Z) := by have := HZ4.out; rw [if_pos (.inl d1)] at this; exact this
            clear HZ4
            go_wp2_with fail
            refine wp_region_quiet_below (by kernel_rfl) (by kernel_rfl) ?_
            repeat (go_big_quiet_step (first | (go_at_call 107; exact cA _ _)))
            refine wpQuiet_nil ?_
            intro w2 hw2
            have hbb : Below w.heap.size w w2 := by
              obtain ⟨⟨d, os⟩, rfl⟩ := hw2
              exact HBW.out.trans ((below_regrown wr d os).mono HBW.out.size)
            clear a0 a1 a3 hw2 cA cK
            go_wp2_with fail
            go_ret
            exact ⟨ret_int HE.out, hbb⟩
          have dd1 : decide (bu < ca) = false := decide_eq_false (by omega)
          by_cases d2 : gu < ck
          · have dd2 : decide (gu < ck) = true := decide_eq_true d2
            have HE : Hid (7 = Z) := by have := HZ4.out; rw [if_pos (.inr d2)] at this; exact this
            clear HZ4
            go_wp2_with fail
            refine wp_region_quiet_below (by kernel_rfl) (by kernel_rfl) ?_
            repeat (go_big_quiet_step (first | (go_at_call 107; with_reducible exact cA _ _) | (go_at_call 107; with_reducible exact cK _ _)))
            refine wpQuiet_nil ?_
            intro w2 hw2
            have hbb : Below w.heap.size w w2 := by
              obtain ⟨⟨d, os⟩, rfl⟩ := hw2
              exact HBW.out.trans ((below_regrown wr d os).mono HBW.out.size)
            clear a0 a1 a3 hw2 cA cK
            go_wp2_with fail
            go_ret
            exact ⟨ret_int HE.out, hbb⟩
          · have dd2 : decide (gu < ck) = false := decide_eq_false d2
            have HE : Hid (0 = Z) := by have := HZ4.out; rw [if_neg (by omega)] at this; exact this
            clear HZ4
            go_wp2_with fail
            refine wp_region_quiet_below (by kernel_rfl) (by kernel_rfl) ?_
            repeat (go_big_quiet_step (first | (go_at_call 107; with_reducible exact cA _ _) | (go_at_call 107; with_reducible exact cK _ _)))
            refine wpQuiet_nil ?_
            intro w2 hw2
            have hbb : Below w.heap.size w w2 := by
              obtain ⟨⟨d, os⟩, rfl⟩ := hw2
              exact HBW.out.trans ((below_regrown wr d os).mono HBW.out.size)
            clear a0 a1 a3 hw2 cA cK
            go_wp2_with fail
            go_ret
            exact ⟨ret_int HE.out, hbb⟩
end Go.Proofs.YtaphofdcoddopaaGreatDoor
/-
  Is it a store? The program's answer.
-/
namespace Go.Proofs.YtaphofdcoddopaaGreatDoor
open Go.ChangeShapes Go.WideShapes Go.ChangeAt Go.RowKit Go.Sort
theorem implEntry_h (w : World) (h : Hdl) (hset : SetIs w) (ho : EntOk h.x) (ht : HThere w h) :
    Calls Tryz.prog 77 #[.agg #[.string h.x.key, .int .i64 h.x.st, .slice h.r.ha h.x.hs.length h.r.hc, .slice h.r.ba h.x.bl.length h.r.bc, .int .i64 h.x.t, .int .i64 h.x.g, .int .i64 h.x.l, .int .i64 h.x.s, .int .i64 h.x.e, .bool h.x.b1, .bool h.x.b2, .slice h.r.ta h.x.ts.length h.r.tc, .int .i64 h.x.pins]] w fun r w' => r = .returned (.int .i64 (entC h.x)) ∧ Below w.heap.size w w' :=
  implEntry_any w _ _ _ _ _ _ _ _ _ _ _ _ _ _ _ _ _ _ _ ho.key ho.h ho.b ho.t hset ht.2.h
theorem faultE_dropH {l : List Hdl} {k : Nat} {q : Hdl} (h : l[k]? = some q) : faultE ((l.map Hdl.x).drop k) = if entC q.x ≠ 0 then entC q.x else faultE ((l.map Hdl.x).drop (k + 1)) := by
  obtain ⟨hk, rfl⟩ := List.getElem?_eq_some_iff.1 h
  rw [List.drop_eq_getElem_cons (i := k) (by simpa using hk), faultE]
  simp
set_option maxRecDepth 100000 in
set_option maxHeartbeats 16000000 in
theorem implSto_any (w : World) (bu gu : Int) (ta ka : Option Addr) (tc kc : Nat) (tl kl : List (Ent × EntR)) (hset : SetIs w) (hl : tl.length ≤ 1048576) (hk : kl.length ≤ 1048576) (hto : ∀ q ∈ tl ++ kl, EntOk q.1) (ht : EntsIn w ta tl) (hq : EntsIn w ka kl) :
    Calls Tryz.prog 76 #[.agg #[.int .i64 bu, .int .i64 gu, .slice ta tl.length tc, .slice ka kl.length kc]] w fun r w' => r = .returned (.int .i64 (storeC bu gu (tl.map Prod.fst) (kl.map Prod.fst))) ∧ Below w.heap.size w w' := by
  obtain ⟨W, hW⟩ : ∃ W, W = w.alloc (.cells #[.int .i64 bu, .int .i64 gu, .slice ta tl.length tc, .slice ka kl.length kc] 28) := ⟨_, rfl⟩
  have HW : Hid (W = w.alloc (.cells #[.int .i64 bu, .int .i64 gu, .slice ta tl.length tc, .slice ka kl.length kc] 28)) := hW
  have K0 : Hid (Below w.heap.size w W ∧ S4 W w.heap.size (.int .i64 bu) (.int .i64 gu) (.slice ta tl.length tc) (.slice ka kl.length kc)) := by
    rw [hW]; exact ⟨(Below.refl _ _).alloc (Nat.le_refl _) _, S4.new w _ _ _ _ _⟩
  obtain ⟨H1, hH1⟩ : ∃ H, hdlsA ta tl = H := ⟨_, rfl⟩
  obtain ⟨H2, hH2⟩ : ∃ H, hdlsA ka kl = H := ⟨_, rfl⟩
  have e1 : H1.map Hdl.x = tl.map Prod.fst := by rw [← hH1]; exact hdlsA_x ta tl
  have e2 : H2.map Hdl.x = kl.map Prod.fst := by rw [← hH2]; exact hdlsA_x ka kl
  have l1 : H1.length = tl.length := by rw [← hH1]; exact hdlsA_len ta tl
  have l2 : H2.length = kl.length := by rw [← hH2]; exact hdlsA_len ka kl
  have HSH : Hid (Calls Tryz.prog 52 #[.agg #[.int .i64 bu, .int .i64 gu, .slice ta tl.length tc, .slice ka kl.length kc]] W fun e w' => (∃ v1 v2, e = .returned (.agg #[v1, v2]) ∧ TwoP w' W.heap.size v1 v2 H1 H2) ∧ Below W.heap.size W w') := by
    have := shelvesOf_any W bu gu ta ka tc kc tl kl hl hk (ht.keep K0.out.1) (hq.keep K0.out.1)
    rw [hH1, hH2] at this
    exact this
  have HTH : Hid (∀ X, Below w.heap.size w X → ∀ h ∈ H1 ++ H2, HThere X h) := fun X hX h hh => by
    rcases List.mem_append.1 hh with hh | hh
    · rw [← hH1] at hh; exact hdlsA_there (ht.keep hX) h hh
    · rw [← hH2] at hh; exact hdlsA_there (hq.keep hX) h hh
  have HOK : Hid (∀ h ∈ H1 ++ H2, EntOk h.x) := fun h hh => by
    have : h.x ∈ (tl ++ kl).map Prod.fst := by
      rw [List.map_append, ← e1, ← e2, ← List.map_append]
      exact List.mem_map_of_mem hh
    obtain ⟨q, hq', e⟩ := List.mem_map.1 this
    rw [← e]
    exact hto q hq'
  have HSET : Hid (∀ X, Below w.heap.size w X → SetIs X) := fun X hX => hset.below hX
  obtain ⟨Z, hZ⟩ : ∃ Z, storeC bu gu (tl.map Prod.fst) (kl.map Prod.fst) = Z := ⟨_, rfl⟩
  rw [hZ]
  unfold storeC at hZ
  rw [← e1, ← e2, List.length_map, List.length_map, l1, l2, ← List.map_append] at hZ
  have HZ : Hid (_ = Z) := hZ
  clear hZ hW ht hq hto hH1 hH2 e1 e2 hset
  obtain ⟨tn, htn⟩ : ∃ n, tl.length = n := ⟨_, rfl⟩
  obtain ⟨kn, hkn⟩ : ∃ n, kl.length = n := ⟨_, rfl⟩
  rw [htn] at HW K0 l1 HSH HZ hl
  rw [hkn] at HW K0 l2 HSH HZ hk
  rw [htn, hkn]
  have HL1 : Hid (H1.length = tn) := l1
  have HL2 : Hid (H2.length = kn) := l2
  clear l1 l2 htn hkn
  by_cases c1 : bu < 0
  · have HR : Hid (3 = Z) := by have := HZ.out; rw [if_pos (by omega)] at this; exact this
    clear HZ HSH HTH HOK HSET
    go_enter Tryz.func76, Tryz.ntmps76
    go_wp2_with fail
    go_ret
    exact ⟨ret_int HR.out, HW.out ▸ K0.out.1⟩
  by_cases c1b : 1000000 < bu
  · have HR : Hid (3 = Z) := by have := HZ.out; rw [if_pos (by omega)] at this; exact this
    clear HZ HSH HTH HOK HSET
    go_enter Tryz.func76, Tryz.ntmps76
    go_wp2_with fail
    go_ret
    exact ⟨ret_int HR.out, HW.out ▸ K0.out.1⟩
  by_cases c2 : gu < 0
  · have HR : Hid (3 = Z) := by have := HZ.out; rw [if_pos (by omega)] at this; exact this
    clear HZ HSH HTH HOK HSET
    go_enter Tryz.func76, Tryz.ntmps76
    go_wp2_with fail
    go_ret
    exact ⟨ret_int HR.out, HW.out ▸ K0.out.1⟩
  by_cases c2b : bu < gu
  · have HR : Hid (3 = Z) := by have := HZ.out; rw [if_pos (by omega)] at this; exact this
    clear HZ HSH HTH HOK HSET
    go_enter Tryz.func76, Tryz.ntmps76
    go_wp2_with fail
    go_ret
    exact ⟨ret_int HR.out, HW.out ▸ K0.out.1⟩
  rw [if_neg (by omega)] at HZ
  have ew : IntKind.i64.wrap ((tn : Int) + (kn : Int)) = (tn : Int) + (kn : Int) := by
    unfold IntKind.wrap; simp [IntKind.signed, IntKind.bits]; omega
  by_cases c3 : 40 < tn + kn
  · have HR : Hid (2 = Z) := by have := HZ.out; rw [if_pos c3] at this; exact this
    have g3 : (40 : Int) < (tn : Int) + (kn : Int) := by omega
    clear HZ HSH HTH HOK HSET
    go_enter Tryz.func76, Tryz.ntmps76
    go_wp2_with fail
    go_ret
    exact ⟨ret_int HR.out, HW.out ▸ K0.out.1⟩
  have HZ2 : Hid ((if faultE ((H1 ++ H2).map Hdl.x) ≠ 0 then faultE ((H1 ++ H2).map Hdl.x) else if dupE ((H1 ++ H2).map Hdl.x) = true then 6 else if bu < costsE ((H1 ++ H2).map Hdl.x) ∨ gu < costsE (H2.map Hdl.x) then 7 else 0) = Z) := by have := HZ.out; rw [if_neg c3] at this; exact this
  have g3 : ¬ (40 : Int) < (tn : Int) + (kn : Int) := by omega
  clear HZ
  go_enter Tryz.func76, Tryz.ntmps76
  go_wp2_with fail
  rw [← HW.out]
  refine HSH.out.mono ?_
  rintro r w1 ⟨⟨v1, v2, rfl, h2⟩, hb1⟩
  obtain ⟨a1, k1, rfl, _⟩ := h2.a.form
  obtain ⟨a2, k2, rfl, _⟩ := h2.b.form
  rw [HL1.out, HL2.out] at h2 ⊢
  obtain ⟨V, hV⟩ : ∃ V, V = w1.alloc (.cells #[.slice a1 tn k1, .slice a2 kn k2] 85) := ⟨_, rfl⟩
  have HV : Hid (V = w1.alloc (.cells #[.slice a1 tn k1, .slice a2 kn k2] 85)) := hV
  obtain ⟨sh, hsh⟩ : ∃ sh, Hid (w1.heap.size = sh) := ⟨_, rfl⟩
  have HK : Hid (∀ X, Below V.heap.size V X → Below w.heap.size w X ∧ S4 X w.heap.size (.int .i64 bu) (.int .i64 gu) (.slice ta tn tc) (.slice ka kn kc) ∧ X.cell? ⟨sh, 0, none⟩ = some (.slice a1 tn k1) ∧ X.cell? ⟨sh, 1, none⟩ = some (.slice a2 kn k2) ∧ TwoP X W.heap.size (.slice a1 tn k1) (.slice a2 kn k2) H1 H2) := fun X hX => by
    have aV : Below w1.heap.size w1 V := by rw [hV]; exact (Below.refl _ _).alloc (Nat.le_refl _) _
    have b1 := K0.out.1.trans (hb1.mono K0.out.1.size)
    have bV := b1.trans (aV.mono b1.size)
    have hVs : w1.heap.size < V.heap.size := by rw [hV]; simp
    refine ⟨bV.trans (hX.mono bV.size), ((K0.out.2.keep hb1).keep aV).keep hX, ?_, ?_, (h2.below aV).below hX⟩
    · rw [← hsh.out, hX.cell (p := ⟨w1.heap.size, 0, none⟩) hVs, hV]; simp
    · rw [← hsh.out, hX.cell (p := ⟨w1.heap.size, 1, none⟩) hVs, hV]; simp
  clear hV h2 hb1 K0 HSH HW
  have h40 : tn + kn ≤ 40 := by omega
  have HALL : Hid (∀ X, Below V.heap.size V X → Calls Tryz.prog 106 #[.agg #[.slice a1 tn k1, .slice a2 kn k2]] X fun e w' => (∃ v, e = .returned v ∧ OwnP w' X.heap.size v (H1 ++ H2)) ∧ Below X.heap.size X w') := fun X hX => shAll_any X _ _ _ H1 H2 (HK.out X hX).2.2.2.2 (by rw [HL1.out, HL2.out]; omega)
  have HLN : Hid ((H1 ++ H2).length = tn + kn) := by show _ = _; rw [List.length_append, HL1.out, HL2.out]
  have q0 := (HK.out V (Below.refl _ _)).2.2.1
  have q1 := (HK.out V (Below.refl _ _)).2.2.2.1
  rw [HV.out, ← hsh.out] at q0 q1
  go_wp2_with fail
  rw [← HV.out]
  refine (HALL.out V (Below.refl _ _)).mono ?_
  rintro r w2 ⟨⟨v, rfl, ho⟩, hb2⟩
  obtain ⟨av, ac, rfl, _, hf⟩ := ho.form
  rw [HLN.out] at ho ⊢
  rw [hsh.out]
  have HC : Hid (∀ X, Below w2.heap.size w2 X → ∀ (k : Nat) h, (H1 ++ H2)[k]? = some h → ∃ g, av = some ⟨g, 0, none⟩ ∧ X.cell? ⟨g, k, none⟩ = some (.pointer (some ⟨h.b, h.o, none⟩))) := fun X hX k h hk => by
    rcases hf with e | ⟨g, e, _, hg, hc⟩
    · rw [e] at hk; simp at hk
    · exact ⟨g, e, by rw [hX.cell (p := ⟨g, k, none⟩) hg]; exact hc k h hk⟩
  have HB2 : Hid (Below V.heap.size V w2) := hb2
  clear q0 q1 hf ho hb2 HV hsh
  obtain ⟨n, hn⟩ : ∃ n, tn + kn = n := ⟨_, rfl⟩
  rw [hn] at HLN h40 ⊢
  clear hn
  obtain ⟨al, hal⟩ : ∃ al, H1 ++ H2 = al := ⟨_, rfl⟩
  have HSUB : Hid (∀ h ∈ H2, h ∈ al) := fun h hh => by rw [← hal]; exact List.mem_append_right _ hh
  have HAL : Hid (H1 ++ H2 = al) := hal
  rw [hal] at HTH HOK HZ2 HALL HLN HC
  clear hal
  go_wp2_with fail
  go_loopw [40] (fun i wr => ∃ k : Nat, k ≤ n ∧ i = .int .i64 k ∧ faultE (al.map Hdl.x) = faultE ((al.map Hdl.x).drop k) ∧ Below w2.heap.size w2 wr) (fun i _ => n - (intOf i).toNat)
  case atStart => exact ⟨0, Nat.zero_le _, rfl, rfl, Below.refl _ _⟩
  case round =>
    obtain ⟨k, hk', rfl, hs, hb⟩ := hrel
    have HS : Hid (faultE (al.map Hdl.x) = faultE ((al.map Hdl.x).drop k)) := hs
    clear hs
    have HBV : Hid (Below V.heap.size V wr) := HB2.out.trans (hb.mono HB2.out.size)
    by_cases hlt : k < n
    · obtain ⟨q, hr⟩ : ∃ r, al[k]? = some r := ⟨al[k]'(by have := HLN.out; omega), List.getElem?_eq_getElem _⟩
      obtain ⟨g', rfl, p⟩ := HC.out wr hb k q hr
      have hw := (HK.out wr HBV.out).1
      have hmem := List.mem_of_getElem? hr
      have PC := (HTH.out wr hw q hmem).cells
      have C : Hid (Calls Tryz.prog 77 #[.agg #[.string q.x.key, .int .i64 q.x.st, .slice q.r.ha q.x.hs.length q.r.hc, .slice q.r.ba q.x.bl.length q.r.bc, .int .i64 q.x.t, .int .i64 q.x.g, .int .i64 q.x.l, .int .i64 q.x.s, .int .i64 q.x.e, .bool q.x.b1, .bool q.x.b2, .slice q.r.ta q.x.ts.length q.r.tc, .int .i64 q.x.pins]] wr fun r w' => r = .returned (.int .i64 (entC q.x)) ∧ Below wr.heap.size wr w') := implEntry_h wr q (HSET.out wr hw) (HOK.out q hmem) (HTH.out wr hw q hmem)
      have HD : Hid (faultE (al.map Hdl.x) = if entC q.x ≠ 0 then entC q.x else faultE ((al.map Hdl.x).drop (k + 1))) := by show _ = _; rw [HS.out, faultE_dropH hr]
      have g : (k : Int) < n := by omega
      have g0 : (0 : Int) ≤ k := by omega
      have HB : Hid (Below w2.heap.size w2 wr) := hb
      have p0 := PC.1
      have p1 := PC.2.1
      have p2 := PC.2.2.1
      have p3 := PC.2.2.2.1
      have p4 := PC.2.2.2.2.1
      have p5 := PC.2.2.2.2.2.1
      have p6 := PC.2.2.2.2.2.2.1
      have p7 := PC.2.2.2.2.2.2.2.1
      have p8 := PC.2.2.2.2.2.2.2.2.1
      have p9 := PC.2.2.2.2.2.2.2.2.2.1
      have p10 := PC.2.2.2.2.2.2.2.2.2.2.1
      have p11 := PC.2.2.2.2.2.2.2.2.2.2.2.1
      have p12 := PC.2.2.2.2.2.2.2.2.2.2.2.2
      clear PC hr HS hb hw hmem
      generalize entC q.x = ec at *
      go_wp2_with fail
      refine C.out.mono ?_
      rintro r w3 ⟨rfl, hb3⟩
      have HB3 : Hid (Below w2.heap.size w2 w3) := HB.out.trans (hb3.mono HB.out.size)
      clear hb3 C HB p p0 p1 p2 p3 p4 p5 p6 p7 p8 p9 p10 p11 p12
      by_cases ce : ec = 0
      · have HE : Hid (faultE (al.map Hdl.x) = faultE ((al.map Hdl.x).drop (k + 1))) := by show _ = _; rw [HD.out, if_neg (by simpa using ce)]
        clear HD
        subst ce
        go_wp2_with fail
        go_roundw
        case rel => exact ⟨k + 1, by omega, by go_num, HE.out, HB3.out⟩
        case measure => simp [intOf]; omega
      · have HE : Hid (ec = Z) := by
          show _ = _
          have := HZ2.out
          rw [HD.out, if_pos ce, if_pos ce] at this
          exact this
        clear HD
        have HBW : Hid (Below w.heap.size w w3) := (HK.out w3 (HB2.out.trans (HB3.out.mono HB2.out.size))).1
        go_wp2_with fail
        go_ret
        exact ⟨ret_int HE.out, HBW.out⟩
    · have HF0 : faultE (al.map Hdl.x) = 0 := by
        rw [HS.out, List.drop_of_length_le (by have := HLN.out; simp; omega), faultE]
      have HZ3 : Hid ((if dupE (al.map Hdl.x) = true then 6 else if bu < costsE (al.map Hdl.x) ∨ gu < costsE (H2.map Hdl.x) then 7 else 0) = Z) := by
        show _ = _
        have := HZ2.out
        rw [HF0] at this
        simpa using this
      have HEC : Hid (∀ q ∈ al, entC q.x = 0) := fun q hq => faultE_zero HF0 q.x (List.mem_map_of_mem hq)
      clear HS HF0 HZ2 HC HB2 hb
      have q0 := (HK.out wr HBV.out).2.2.1
      have q1 := (HK.out wr HBV.out).2.2.2.1
      go_wp2_with fail
      refine (HALL.out wr HBV.out).mono ?_
      rintro r w3 ⟨⟨v, rfl, ho⟩, hb3⟩
      have HB3 : Hid (Below V.heap.size V w3) := HBV.out.trans (hb3.mono HBV.out.size)
      have hw3 := (HK.out w3 HB3.out).1
      have C3 : Hid (Calls Tryz.prog 118 #[v] w3 fun e w' => e = .returned (.bool (dupE (al.map Hdl.x))) ∧ Below w3.heap.size w3 w') := keyTwice_any w3 v _ al ho (by rw [HLN.out]; omega) (fun h hh => HTH.out w3 hw3 h hh) (fun h hh => (HOK.out h hh).key)
      clear ho hb3 hw3 q0 q1 HALL HBV
      go_wp2_with fail
      refine C3.out.mono ?_
      rintro r w4 ⟨rfl, hb4⟩
      have HB4 : Hid (Below V.heap.size V w4) := HB3.out.trans (hb4.mono HB3.out.size)
      clear hb4 C3 HB3
      have hw4 := (HK.out w4 HB4.out).1
      obtain ⟨hK1, hS4, hc0, hc1, h2⟩ := HK.out w4 HB4.out
      have HBW : Hid (Below w.heap.size w w4) := hw4
      cases hd : dupE (al.map Hdl.x)
      · rw [hd] at HZ3
        simp only [Bool.false_eq_true, if_false] at HZ3
        have cA : ∀ d os, Calls Tryz.prog 119 #[.agg #[.slice a1 tn k1, .slice a2 kn k2]] (grow (redrawn w4 d) os) fun e w'' => e = .returned (.int .i64 (costsE (al.map Hdl.x))) ∧ ∃ p : Regrown, w'' = grow (redrawn w4 p.d) p.os := fun d os => Calls.regrown_of (by
          have b := below_regrown w4 d os
          have bw := hw4.trans (b.mono hw4.size)
          have := shCost_any (grow (redrawn w4 d) os) _ _ _ H1 H2 (h2.below b) (HSET.out _ bw) (by rw [← List.length_append, HAL.out, HLN.out]; omega) (fun h hh => HTH.out _ bw h (HAL.out ▸ hh)) (fun h hh => HEC.out h (HAL.out ▸ hh))
          rw [HAL.out] at this
          exact this)
        have cK : ∀ d os, Calls Tryz.prog 109 #[.agg #[.slice a2 kn k2], .func (.func 110) #[] #[]] (grow (redrawn w4 d) os) fun e w'' => e = .returned (.int .i64 (costsE (H2.map Hdl.x))) ∧ ∃ p : Regrown, w'' = grow (redrawn w4 p.d) p.os := fun d os => Calls.regrown_of (by
          have b := below_regrown w4 d os
          have bw := hw4.trans (b.mono hw4.size)
          exact shSum_any (grow (redrawn w4 d) os) _ _ H2 (h2.b.below b) (HSET.out _ bw) (by rw [HL2.out]; have := HLN.out; rw [← HAL.out, List.length_append, HL1.out, HL2.out] at this; omega) (fun h hh => HTH.out _ bw h (HSUB.out h hh)) (fun h hh => HEC.out h (HSUB.out h hh)))
        have a0 := cell_regrown hS4.c0
        have a1' := cell_regrown hS4.c1
        have s0 := cell_regrown hc0
        have s1 := cell_regrown hc1
        clear hd HEC HTH HOK HSET HK hS4 hc0 hc1 h2 hK1 hw4 HB4 HSUB HAL HL1 HL2
        generalize costsE (al.map Hdl.x) = ca at *
        generalize costsE (H2.map Hdl.x) = ck at *
        have FIN : Hid (∀ w2', (∃ p : Regrown, w2' = grow (redrawn w4 p.d) p.os) → Below w.heap.size w w2') := fun w2' hw2 => by
          obtain ⟨⟨d, os⟩, rfl⟩ := hw2
          exact HBW.out.trans ((below_regrown w4 d os).mono HBW.out.size)
        by_cases d1 : bu < ca
        · have HE : Hid (7 = Z) := by have := HZ3.out; rw [if_pos (.inl d1)] at this; exact this
          have dd1 : decide (bu < ca) = true := decide_eq_true d1
          clear HZ3
          go_wp2_with fail
          refine wp_region_quiet_below (by kernel_rfl) (by kernel_rfl) ?_
          repeat (go_big_quiet_step (first | (go_at_call 119; with_reducible exact cA _ _) | (go_at_call 109; with_reducible exact cK _ _)))
          refine wpQuiet_nil ?_
          intro w5 hw5
          have hbb := FIN.out w5 hw5
          clear a0 a1' s0 s1 hw5 cA cK FIN
          go_wp2_with fail
          go_ret
          exact ⟨ret_int HE.out, hbb⟩
        have dd1 : decide (bu < ca) = false := decide_eq_false (by omega)
        by_cases d2 : gu < ck
        · have HE : Hid (7 = Z) := by have := HZ3.out; rw [if_pos (.inr d2)] at this; exact this
          have dd2 : decide (gu < ck) = true := decide_eq_true d2
          clear HZ3
          go_wp2_with fail
          refine wp_region_quiet_below (by kernel_rfl) (by kernel_rfl) ?_
          repeat (go_big_quiet_step (first | (go_at_call 119; with_reducible exact cA _ _) | (go_at_call 109; with_reducible exact cK _ _)))
          refine wpQuiet_nil ?_
          intro w5 hw5
          have hbb := FIN.out w5 hw5
          clear a0 a1' s0 s1 hw5 cA cK FIN
          go_wp2_with fail
          go_ret
          exact ⟨ret_int HE.out, hbb⟩
        · have HE : Hid (0 = Z) := by have := HZ3.out; rw [if_neg (by omega)] at this; exact this
          have dd2 : decide (gu < ck) = false := decide_eq_false (by omega)
          clear HZ3
          go_wp2_with fail
          refine wp_region_quiet_below (by kernel_rfl) (by kernel_rfl) ?_
          repeat (go_big_quiet_step (first | (go_at_call 119; with_reducible exact cA _ _) | (go_at_call 109; with_reducible exact cK _ _)))
          refine wpQuiet_nil ?_
          intro w5 hw5
          have hbb := FIN.out w5 hw5
          clear a0 a1' s0 s1 hw5 cA cK FIN
          go_wp2_with fail
          go_ret
          exact ⟨ret_int HE.out, hbb⟩
      · have HE : Hid (6 = Z) := by have := HZ3.out; rw [hd, if_pos rfl] at this; exact this
        clear HZ3 hd HEC HTH HOK HSET HK hS4 hc0 hc1 h2 hK1 hw4 HB4
        go_wp2_with fail
        go_ret
        exact ⟨ret_int HE.out, HBW.out⟩
end Go.Proofs.YtaphofdcoddopaaGreatDoor
/-
  CostIn, by the specification and by the program.
-/
namespace Go.Proofs.YtaphofdcoddopaaGreatDoor
open Go.ChangeShapes Go.WideShapes Go.ChangeAt Go.RowKit Go.Sort
theorem storeC_zero {bu gu : Int} {tl kl : List Ent} (h : storeC bu gu tl kl = 0) : (0 ≤ bu ∧ bu ≤ 1000000 ∧ 0 ≤ gu ∧ gu ≤ bu) ∧ tl.length + kl.length ≤ 40 ∧ faultE (tl ++ kl) = 0 ∧ dupE (tl ++ kl) = false ∧ costsE (tl ++ kl) ≤ bu ∧ costsE kl ≤ gu := by
  unfold storeC at h
  split at h
  · omega
  split at h
  · omega
  split at h
  · contradiction
  split at h
  · omega
  split at h
  · omega
  rename_i c1 c2 c3 c4 c5
  exact ⟨by omega, by omega, by omega, by simpa using c4, by omega, by omega⟩
end Go.Proofs.YtaphofdcoddopaaGreatDoor
/-
  Fourteen cells that may be written.
-/
namespace Go.Proofs.YtaphofdcoddopaaGreatDoor
open Go.ChangeShapes Go.WideShapes Go.ChangeAt Go.RowKit
structure E14 (w : World) (b : Nat) (v0 v1 v2 v3 v4 v5 v6 v7 v8 v9 v10 v11 v12 v13 : Value) : Prop where
  c0 : w.cell? ⟨b, 0, none⟩ = some v0
  c1 : w.cell? ⟨b, 1, none⟩ = some v1
  c2 : w.cell? ⟨b, 2, none⟩ = some v2
  c3 : w.cell? ⟨b, 3, none⟩ = some v3
  c4 : w.cell? ⟨b, 4, none⟩ = some v4
  c5 : w.cell? ⟨b, 5, none⟩ = some v5
  c6 : w.cell? ⟨b, 6, none⟩ = some v6
  c7 : w.cell? ⟨b, 7, none⟩ = some v7
  c8 : w.cell? ⟨b, 8, none⟩ = some v8
  c9 : w.cell? ⟨b, 9, none⟩ = some v9
  c10 : w.cell? ⟨b, 10, none⟩ = some v10
  c11 : w.cell? ⟨b, 11, none⟩ = some v11
  c12 : w.cell? ⟨b, 12, none⟩ = some v12
  c13 : w.cell? ⟨b, 13, none⟩ = some v13
  fr : ∀ o, w.frozen? ⟨b, o, none⟩ = false
  lt : b < w.heap.size
section
variable {w w' : World} {b : Nat} {v0 v1 v2 v3 v4 v5 v6 v7 v8 v9 v10 v11 v12 v13 : Value}
theorem E14.keep (k : E14 w b v0 v1 v2 v3 v4 v5 v6 v7 v8 v9 v10 v11 v12 v13) (hb : Below w.heap.size w w') : E14 w' b v0 v1 v2 v3 v4 v5 v6 v7 v8 v9 v10 v11 v12 v13 :=
  ⟨by rw [hb.cell (p := ⟨b, 0, none⟩) k.lt]; exact k.c0, by rw [hb.cell (p := ⟨b, 1, none⟩) k.lt]; exact k.c1, by rw [hb.cell (p := ⟨b, 2, none⟩) k.lt]; exact k.c2, by rw [hb.cell (p := ⟨b, 3, none⟩) k.lt]; exact k.c3, by rw [hb.cell (p := ⟨b, 4, none⟩) k.lt]; exact k.c4, by rw [hb.cell (p := ⟨b, 5, none⟩) k.lt]; exact k.c5, by rw [hb.cell (p := ⟨b, 6, none⟩) k.lt]; exact k.c6, by rw [hb.cell (p := ⟨b, 7, none⟩) k.lt]; exact k.c7, by rw [hb.cell (p := ⟨b, 8, none⟩) k.lt]; exact k.c8, by rw [hb.cell (p := ⟨b, 9, none⟩) k.lt]; exact k.c9, by rw [hb.cell (p := ⟨b, 10, none⟩) k.lt]; exact k.c10, by rw [hb.cell (p := ⟨b, 11, none⟩) k.lt]; exact k.c11, by rw [hb.cell (p := ⟨b, 12, none⟩) k.lt]; exact k.c12, by rw [hb.cell (p := ⟨b, 13, none⟩) k.lt]; exact k.c13, fun o => by rw [hb.frozen (p := ⟨b, o, none⟩) k.lt]; exact k.fr o, Nat.lt_of_lt_of_le k.lt hb.size⟩
theorem E14.new (w : World) (v0 v1 v2 v3 v4 v5 v6 v7 v8 v9 v10 v11 v12 v13 : Value) (t : TypeId) : E14 (w.alloc (.cells #[v0, v1, v2, v3, v4, v5, v6, v7, v8, v9, v10, v11, v12, v13] t)) w.heap.size v0 v1 v2 v3 v4 v5 v6 v7 v8 v9 v10 v11 v12 v13 := ⟨by simp, by simp, by simp, by simp, by simp, by simp, by simp, by simp, by simp, by simp, by simp, by simp, by simp, by simp, fun o => by simp, by simp⟩
theorem E14.off (k : E14 w b v0 v1 v2 v3 v4 v5 v6 v7 v8 v9 v10 v11 v12 v13) {B i : Nat} {x : Value} (h : B ≠ b) : E14 (w.setCell ⟨B, i, none⟩ x) b v0 v1 v2 v3 v4 v5 v6 v7 v8 v9 v10 v11 v12 v13 := by
  have ne : ∀ o : Nat, (⟨B, i, none⟩ : Addr) ≠ ⟨b, o, none⟩ := fun o q => h (congrArg Addr.block q)
  exact ⟨by rw [World.cell?_setCell_other _ _ _ _ (ne _)]; exact k.c0, by rw [World.cell?_setCell_other _ _ _ _ (ne _)]; exact k.c1, by rw [World.cell?_setCell_other _ _ _ _ (ne _)]; exact k.c2, by rw [World.cell?_setCell_other _ _ _ _ (ne _)]; exact k.c3, by rw [World.cell?_setCell_other _ _ _ _ (ne _)]; exact k.c4, by rw [World.cell?_setCell_other _ _ _ _ (ne _)]; exact k.c5, by rw [World.cell?_setCell_other _ _ _ _ (ne _)]; exact k.c6, by rw [World.cell?_setCell_other _ _ _ _ (ne _)]; exact k.c7, by rw [World.cell?_setCell_other _ _ _ _ (ne _)]; exact k.c8, by rw [World.cell?_setCell_other _ _ _ _ (ne _)]; exact k.c9, by rw [World.cell?_setCell_other _ _ _ _ (ne _)]; exact k.c10, by rw [World.cell?_setCell_other _ _ _ _ (ne _)]; exact k.c11, by rw [World.cell?_setCell_other _ _ _ _ (ne _)]; exact k.c12, by rw [World.cell?_setCell_other _ _ _ _ (ne _)]; exact k.c13, fun o => by rw [World.frozen?_setCell]; exact k.fr o, by simpa using k.lt⟩
theorem E14.set0 (k : E14 w b v0 v1 v2 v3 v4 v5 v6 v7 v8 v9 v10 v11 v12 v13) (x : Value) : E14 (w.setCell ⟨b, 0, none⟩ x) b x v1 v2 v3 v4 v5 v6 v7 v8 v9 v10 v11 v12 v13 :=
  ⟨World.cell?_setCell_same _ _ _ k.c0, by rw [World.cell?_setCell_other _ _ _ _ (by intro q; have := congrArg Addr.off q; simp at this)]; exact k.c1, by rw [World.cell?_setCell_other _ _ _ _ (by intro q; have := congrArg Addr.off q; simp at this)]; exact k.c2, by rw [World.cell?_setCell_other _ _ _ _ (by intro q; have := congrArg Addr.off q; simp at this)]; exact k.c3, by rw [World.cell?_setCell_other _ _ _ _ (by intro q; have := congrArg Addr.off q; simp at this)]; exact k.c4, by rw [World.cell?_setCell_other _ _ _ _ (by intro q; have := congrArg Addr.off q; simp at this)]; exact k.c5, by rw [World.cell?_setCell_other _ _ _ _ (by intro q; have := congrArg Addr.off q; simp at this)]; exact k.c6, by rw [World.cell?_setCell_other _ _ _ _ (by intro q; have := congrArg Addr.off q; simp at this)]; exact k.c7, by rw [World.cell?_setCell_other _ _ _ _ (by intro q; have := congrArg Addr.off q; simp at this)]; exact k.c8, by rw [World.cell?_setCell_other _ _ _ _ (by intro q; have := congrArg Addr.off q; simp at this)]; exact k.c9, by rw [World.cell?_setCell_other _ _ _ _ (by intro q; have := congrArg Addr.off q; simp at this)]; exact k.c10, by rw [World.cell?_setCell_other _ _ _ _ (by intro q; have := congrArg Addr.off q; simp at this)]; exact k.c11, by rw [World.cell?_setCell_other _ _ _ _ (by intro q; have := congrArg Addr.off q; simp at this)]; exact k.c12, by rw [World.cell?_setCell_other _ _ _ _ (by intro q; have := congrArg Addr.off q; simp at this)]; exact k.c13, fun o => by rw [World.frozen?_setCell]; exact k.fr o, by simpa using k.lt⟩
theorem E14.set1 (k : E14 w b v0 v1 v2 v3 v4 v5 v6 v7 v8 v9 v10 v11 v12 v13) (x : Value) : E14 (w.setCell ⟨b, 1, none⟩ x) b v0 x v2 v3 v4 v5 v6 v7 v8 v9 v10 v11 v12 v13 :=
  ⟨by rw [World.cell?_setCell_other _ _ _ _ (by intro q; have := congrArg Addr.off q; simp at this)]; exact k.c0, World.cell?_setCell_same _ _ _ k.c1, by rw [World.cell?_setCell_other _ _ _ _ (by intro q; have := congrArg Addr.off q; simp at this)]; exact k.c2, by rw [World.cell?_setCell_other _ _ _ _ (by intro q; have := congrArg Addr.off q; simp at this)]; exact k.c3, by rw [World.cell?_setCell_other _ _ _ _ (by intro q; have := congrArg Addr.off q; simp at this)]; exact k.c4, by rw [World.cell?_setCell_other _ _ _ _ (by intro q; have := congrArg Addr.off q; simp at this)]; exact k.c5, by rw [World.cell?_setCell_other _ _ _ _ (by intro q; have := congrArg Addr.off q; simp at this)]; exact k.c6, by rw [World.cell?_setCell_other _ _ _ _ (by intro q; have := congrArg Addr.off q; simp at this)]; exact k.c7, by rw [World.cell?_setCell_other _ _ _ _ (by intro q; have := congrArg Addr.off q; simp at this)]; exact k.c8, by rw [World.cell?_setCell_other _ _ _ _ (by intro q; have := congrArg Addr.off q; simp at this)]; exact k.c9, by rw [World.cell?_setCell_other _ _ _ _ (by intro q; have := congrArg Addr.off q; simp at this)]; exact k.c10, by rw [World.cell?_setCell_other _ _ _ _ (by intro q; have := congrArg Addr.off q; simp at this)]; exact k.c11, by rw [World.cell?_setCell_other _ _ _ _ (by intro q; have := congrArg Addr.off q; simp at this)]; exact k.c12, by rw [World.cell?_setCell_other _ _ _ _ (by intro q; have := congrArg Addr.off q; simp at this)]; exact k.c13, fun o => by rw [World.frozen?_setCell]; exact k.fr o, by simpa using k.lt⟩
theorem E14.set2 (k : E14 w b v0 v1 v2 v3 v4 v5 v6 v7 v8 v9 v10 v11 v12 v13) (x : Value) : E14 (w.setCell ⟨b, 2, none⟩ x) b v0 v1 x v3 v4 v5 v6 v7 v8 v9 v10 v11 v12 v13 :=
  ⟨by rw [World.cell?_setCell_other _ _ _ _ (by intro q; have := congrArg Addr.off q; simp at this)]; exact k.c0, by rw [World.cell?_setCell_other _ _ _ _ (by intro q; have := congrArg Addr.off q; simp at this)]; exact k.c1, World.cell?_setCell_same _ _ _ k.c2, by rw [World.cell?_setCell_other _ _ _ _ (by intro q; have := congrArg Addr.off q; simp at this)]; exact k.c3, by rw [World.cell?_setCell_other _ _ _ _ (by intro q; have := congrArg Addr.off q; simp at this)]; exact k.c4, by rw [World.cell?_setCell_other _ _ _ _ (by intro q; have := congrArg Addr.off q; simp at this)]; exact k.c5, by rw [World.cell?_setCell_other _ _ _ _ (by intro q; have := congrArg Addr.off q; simp at this)]; exact k.c6, by rw [World.cell?_setCell_other _ _ _ _ (by intro q; have := congrArg Addr.off q; simp at this)]; exact k.c7, by rw [World.cell?_setCell_other _ _ _ _ (by intro q; have := congrArg Addr.off q; simp at this)]; exact k.c8, by rw [World.cell?_setCell_other _ _ _ _ (by intro q; have := congrArg Addr.off q; simp at this)]; exact k.c9, by rw [World.cell?_setCell_other _ _ _ _ (by intro q; have := congrArg Addr.off q; simp at this)]; exact k.c10, by rw [World.cell?_setCell_other _ _ _ _ (by intro q; have := congrArg Addr.off q; simp at this)]; exact k.c11, by rw [World.cell?_setCell_other _ _ _ _ (by intro q; have := congrArg Addr.off q; simp at this)]; exact k.c12, by rw [World.cell?_setCell_other _ _ _ _ (by intro q; have := congrArg Addr.off q; simp at this)]; exact k.c13, fun o => by rw [World.frozen?_setCell]; exact k.fr o, by simpa using k.lt⟩
theorem E14.set3 (k : E14 w b v0 v1 v2 v3 v4 v5 v6 v7 v8 v9 v10 v11 v12 v13) (x : Value) : E14 (w.setCell ⟨b, 3, none⟩ x) b v0 v1 v2 x v4 v5 v6 v7 v8 v9 v10 v11 v12 v13 :=
  ⟨by rw [World.cell?_setCell_other _ _ _ _ (by intro q; have := congrArg Addr.off q; simp at this)]; exact k.c0, by rw [World.cell?_setCell_other _ _ _ _ (by intro q; have := congrArg Addr.off q; simp at this)]; exact k.c1, by rw [World.cell?_setCell_other _ _ _ _ (by intro q; have := congrArg Addr.off q; simp at this)]; exact k.c2, World.cell?_setCell_same _ _ _ k.c3, by rw [World.cell?_setCell_other _ _ _ _ (by intro q; have := congrArg Addr.off q; simp at this)]; exact k.c4, by rw [World.cell?_setCell_other _ _ _ _ (by intro q; have := congrArg Addr.off q; simp at this)]; exact k.c5, by rw [World.cell?_setCell_other _ _ _ _ (by intro q; have := congrArg Addr.off q; simp at this)]; exact k.c6, by rw [World.cell?_setCell_other _ _ _ _ (by intro q; have := congrArg Addr.off q; simp at this)]; exact k.c7, by rw [World.cell?_setCell_other _ _ _ _ (by intro q; have := congrArg Addr.off q; simp at this)]; exact k.c8, by rw [World.cell?_setCell_other _ _ _ _ (by intro q; have := congrArg Addr.off q; simp at this)]; exact k.c9, by rw [World.cell?_setCell_other _ _ _ _ (by intro q; have := congrArg Addr.off q; simp at this)]; exact k.c10, by rw [World.cell?_setCell_other _ _ _ _ (by intro q; have := congrArg Addr.off q; simp at this)]; exact k.c11, by rw [World.cell?_setCell_other _ _ _ _ (by intro q; have := congrArg Addr.off q; simp at this)]; exact k.c12, by rw [World.cell?_setCell_other _ _ _ _ (by intro q; have := congrArg Addr.off q; simp at this)]; exact k.c13, fun o => by rw [World.frozen?_setCell]; exact k.fr o, by simpa using k.lt⟩
theorem E14.set4 (k : E14 w b v0 v1 v2 v3 v4 v5 v6 v7 v8 v9 v10 v11 v12 v13) (x : Value) : E14 (w.setCell ⟨b, 4, none⟩ x) b v0 v1 v2 v3 x v5 v6 v7 v8 v9 v10 v11 v12 v13 :=
  ⟨by rw [World.cell?_setCell_other _ _ _ _ (by intro q; have := congrArg Addr.off q; simp at this)]; exact k.c0, by rw [World.cell?_setCell_other _ _ _ _ (by intro q; have := congrArg Addr.off q; simp at this)]; exact k.c1, by rw [World.cell?_setCell_other _ _ _ _ (by intro q; have := congrArg Addr.off q; simp at this)]; exact k.c2, by rw [World.cell?_setCell_other _ _ _ _ (by intro q; have := congrArg Addr.off q; simp at this)]; exact k.c3, World.cell?_setCell_same _ _ _ k.c4, by rw [World.cell?_setCell_other _ _ _ _ (by intro q; have := congrArg Addr.off q; simp at this)]; exact k.c5, by rw [World.cell?_setCell_other _ _ _ _ (by intro q; have := congrArg Addr.off q; simp at this)]; exact k.c6, by rw [World.cell?_setCell_other _ _ _ _ (by intro q; have := congrArg Addr.off q; simp at this)]; exact k.c7, by rw [World.cell?_setCell_other _ _ _ _ (by intro q; have := congrArg Addr.off q; simp at this)]; exact k.c8, by rw [World.cell?_setCell_other _ _ _ _ (by intro q; have := congrArg Addr.off q; simp at this)]; exact k.c9, by rw [World.cell?_setCell_other _ _ _ _ (by intro q; have := congrArg Addr.off q; simp at this)]; exact k.c10, by rw [World.cell?_setCell_other _ _ _ _ (by intro q; have := congrArg Addr.off q; simp at this)]; exact k.c11, by rw [World.cell?_setCell_other _ _ _ _ (by intro q; have := congrArg Addr.off q; simp at this)]; exact k.c12, by rw [World.cell?_setCell_other _ _ _ _ (by intro q; have := congrArg Addr.off q; simp at this)]; exact k.c13, fun o => by rw [World.frozen?_setCell]; exact k.fr o, by simpa using k.lt⟩
theorem E14.set5 (k : E14 w b v0 v1 v2 v3 v4 v5 v6 v7 v8 v9 v10 v11 v12 v13) (x : Value) : E14 (w.setCell ⟨b, 5, none⟩ x) b v0 v1 v2 v3 v4 x v6 v7 v8 v9 v10 v11 v12 v13 :=
  ⟨by rw [World.cell?_setCell_other _ _ _ _ (by intro q; have := congrArg Addr.off q; simp at this)]; exact k.c0, by rw [World.cell?_setCell_other _ _ _ _ (by intro q; have := congrArg Addr.off q; simp at this)]; exact k.c1, by rw [World.cell?_setCell_other _ _ _ _ (by intro q; have := congrArg Addr.off q; simp at this)]; exact k.c2, by rw [World.cell?_setCell_other _ _ _ _ (by intro q; have := congrArg Addr.off q; simp at this)]; exact k.c3, by rw [World.cell?_setCell_other _ _ _ _ (by intro q; have := congrArg Addr.off q; simp at this)]; exact k.c4, World.cell?_setCell_same _ _ _ k.c5, by rw [World.cell?_setCell_other _ _ _ _ (by intro q; have := congrArg Addr.off q; simp at this)]; exact k.c6, by rw [World.cell?_setCell_other _ _ _ _ (by intro q; have := congrArg Addr.off q; simp at this)]; exact k.c7, by rw [World.cell?_setCell_other _ _ _ _ (by intro q; have := congrArg Addr.off q; simp at this)]; exact k.c8, by rw [World.cell?_setCell_other _ _ _ _ (by intro q; have := congrArg Addr.off q; simp at this)]; exact k.c9, by rw [World.cell?_setCell_other _ _ _ _ (by intro q; have := congrArg Addr.off q; simp at this)]; exact k.c10, by rw [World.cell?_setCell_other _ _ _ _ (by intro q; have := congrArg Addr.off q; simp at this)]; exact k.c11, by rw [World.cell?_setCell_other _ _ _ _ (by intro q; have := congrArg Addr.off q; simp at this)]; exact k.c12, by rw [World.cell?_setCell_other _ _ _ _ (by intro q; have := congrArg Addr.off q; simp at this)]; exact k.c13, fun o => by rw [World.frozen?_setCell]; exact k.fr o, by simpa using k.lt⟩
theorem E14.set6 (k : E14 w b v0 v1 v2 v3 v4 v5 v6 v7 v8 v9 v10 v11 v12 v13) (x : Value) : E14 (w.setCell ⟨b, 6, none⟩ x) b v0 v1 v2 v3 v4 v5 x v7 v8 v9 v10 v11 v12 v13 :=
  ⟨by rw [World.cell?_setCell_other _ _ _ _ (by intro q; have := congrArg Addr.off q; simp at this)]; exact k.c0, by rw [World.cell?_setCell_other _ _ _ _ (by intro q; have := congrArg Addr.off q; simp at this)]; exact k.c1, by rw [World.cell?_setCell_other _ _ _ _ (by intro q; have := congrArg Addr.off q; simp at this)]; exact k.c2, by rw [World.cell?_setCell_other _ _ _ _ (by intro q; have := congrArg Addr.off q; simp at this)]; exact k.c3, by rw [World.cell?_setCell_other _ _ _ _ (by intro q; have := congrArg Addr.off q; simp at this)]; exact k.c4, by rw [World.cell?_setCell_other _ _ _ _ (by intro q; have := congrArg Addr.off q; simp at this)]; exact k.c5, World.cell?_setCell_same _ _ _ k.c6, by rw [World.cell?_setCell_other _ _ _ _ (by intro q; have := congrArg Addr.off q; simp at this)]; exact k.c7, by rw [World.cell?_setCell_other _ _ _ _ (by intro q; have := congrArg Addr.off q; simp at this)]; exact k.c8, by rw [World.cell?_setCell_other _ _ _ _ (by intro q; have := congrArg Addr.off q; simp at this)]; exact k.c9, by rw [World.cell?_setCell_other _ _ _ _ (by intro q; have := congrArg Addr.off q; simp at this)]; exact k.c10, by rw [World.cell?_setCell_other _ _ _ _ (by intro q; have := congrArg Addr.off q; simp at this)]; exact k.c11, by rw [World.cell?_setCell_other _ _ _ _ (by intro q; have := congrArg Addr.off q; simp at this)]; exact k.c12, by rw [World.cell?_setCell_other _ _ _ _ (by intro q; have := congrArg Addr.off q; simp at this)]; exact k.c13, fun o => by rw [World.frozen?_setCell]; exact k.fr o, by simpa using k.lt⟩
theorem E14.set7 (k : E14 w b v0 v1 v2 v3 v4 v5 v6 v7 v8 v9 v10 v11 v12 v13) (x : Value) : E14 (w.setCell ⟨b, 7, none⟩ x) b v0 v1 v2 v3 v4 v5 v6 x v8 v9 v10 v11 v12 v13 :=
  ⟨by rw [World.cell?_setCell_other _ _ _ _ (by intro q; have := congrArg Addr.off q; simp at this)]; exact k.c0, by rw [World.cell?_setCell_other _ _ _ _ (by intro q; have := congrArg Addr.off q; simp at this)]; exact k.c1, by rw [World.cell?_setCell_other _ _ _ _ (by intro q; have := congrArg Addr.off q; simp at this)]; exact k.c2, by rw [World.cell?_setCell_other _ _ _ _ (by intro q; have := congrArg Addr.off q; simp at this)]; exact k.c3, by rw [World.cell?_setCell_other _ _ _ _ (by intro q; have := congrArg Addr.off q; simp at this)]; exact k.c4, by rw [World.cell?_setCell_other _ _ _ _ (by intro q; have := congrArg Addr.off q; simp at this)]; exact k.c5, by rw [World.cell?_setCell_other _ _ _ _ (by intro q; have := congrArg Addr.off q; simp at this)]; exact k.c6, World.cell?_setCell_same _ _ _ k.c7, by rw [World.cell?_setCell_other _ _ _ _ (by intro q; have := congrArg Addr.off q; simp at this)]; exact k.c8, by rw [World.cell?_setCell_other _ _ _ _ (by intro q; have := congrArg Addr.off q; simp at this)]; exact k.c9, by rw [World.cell?_setCell_other _ _ _ _ (by intro q; have := congrArg Addr.off q; simp at this)]; exact k.c10, by rw [World.cell?_setCell_other _ _ _ _ (by intro q; have := congrArg Addr.off q; simp at this)]; exact k.c11, by rw [World.cell?_setCell_other _ _ _ _ (by intro q; have := congrArg Addr.off q; simp at this)]; exact k.c12, by rw [World.cell?_setCell_other _ _ _ _ (by intro q; have := congrArg Addr.off q; simp at this)]; exact k.c13, fun o => by rw [World.frozen?_setCell]; exact k.fr o, by simpa using k.lt⟩
theorem E14.set8 (k : E14 w b v0 v1 v2 v3 v4 v5 v6 v7 v8 v9 v10 v11 v12 v13) (x : Value) : E14 (w.setCell ⟨b, 8, none⟩ x) b v0 v1 v2 v3 v4 v5 v6 v7 x v9 v10 v11 v12 v13 :=
  ⟨by rw [World.cell?_setCell_other _ _ _ _ (by intro q; have := congrArg Addr.off q; simp at this)]; exact k.c0, by rw [World.cell?_setCell_other _ _ _ _ (by intro q; have := congrArg Addr.off q; simp at this)]; exact k.c1, by rw [World.cell?_setCell_other _ _ _ _ (by intro q; have := congrArg Addr.off q; simp at this)]; exact k.c2, by rw [World.cell?_setCell_other _ _ _ _ (by intro q; have := congrArg Addr.off q; simp at this)]; exact k.c3, by rw [World.cell?_setCell_other _ _ _ _ (by intro q; have := congrArg Addr.off q; simp at this)]; exact k.c4, by rw [World.cell?_setCell_other _ _ _ _ (by intro q; have := congrArg Addr.off q; simp at this)]; exact k.c5, by rw [World.cell?_setCell_other _ _ _ _ (by intro q; have := congrArg Addr.off q; simp at this)]; exact k.c6, by rw [World.cell?_setCell_other _ _ _ _ (by intro q; have := congrArg Addr.off q; simp at this)]; exact k.c7, World.cell?_setCell_same _ _ _ k.c8, by rw [World.cell?_setCell_other _ _ _ _ (by intro q; have := congrArg Addr.off q; simp at this)]; exact k.c9, by rw [World.cell?_setCell_other _ _ _ _ (by intro q; have := congrArg Addr.off q; simp at this)]; exact k.c10, by rw [World.cell?_setCell_other _ _ _ _ (by intro q; have := congrArg Addr.off q; simp at this)]; exact k.c11, by rw [World.cell?_setCell_other _ _ _ _ (by intro q; have := congrArg Addr.off q; simp at this)]; exact k.c12, by rw [World.cell?_setCell_other _ _ _ _ (by intro q; have := congrArg Addr.off q; simp at this)]; exact k.c13, fun o => by rw [World.frozen?_setCell]; exact k.fr o, by simpa using k.lt⟩
theorem E14.set9 (k : E14 w b v0 v1 v2 v3 v4 v5 v6 v7 v8 v9 v10 v11 v12 v13) (x : Value) : E14 (w.setCell ⟨b, 9, none⟩ x) b v0 v1 v2 v3 v4 v5 v6 v7 v8 x v10 v11 v12 v13 :=
  ⟨by rw [World.cell?_setCell_other _ _ _ _ (by intro q; have := congrArg Addr.off q; simp at this)]; exact k.c0, by rw [World.cell?_setCell_other _ _ _ _ (by intro q; have := congrArg Addr.off q; simp at this)]; exact k.c1, by rw [World.cell?_setCell_other _ _ _ _ (by intro q; have := congrArg Addr.off q; simp at this)]; exact k.c2, by rw [World.cell?_setCell_other _ _ _ _ (by intro q; have := congrArg Addr.off q; simp at this)]; exact k.c3, by rw [World.cell?_setCell_other _ _ _ _ (by intro q; have := congrArg Addr.off q; simp at this)]; exact k.c4, by rw [World.cell?_setCell_other _ _ _ _ (by intro q; have := congrArg Addr.off q; simp at this)]; exact k.c5, by rw [World.cell?_setCell_other _ _ _ _ (by intro q; have := congrArg Addr.off q; simp at this)]; exact k.c6, by rw [World.cell?_setCell_other _ _ _ _ (by intro q; have := congrArg Addr.off q; simp at this)]; exact k.c7, by rw [World.cell?_setCell_other _ _ _ _ (by intro q; have := congrArg Addr.off q; simp at this)]; exact k.c8, World.cell?_setCell_same _ _ _ k.c9, by rw [World.cell?_setCell_other _ _ _ _ (by intro q; have := congrArg Addr.off q; simp at this)]; exact k.c10, by rw [World.cell?_setCell_other _ _ _ _ (by intro q; have := congrArg Addr.off q; simp at this)]; exact k.c11, by rw [World.cell?_setCell_other _ _ _ _ (by intro q; have := congrArg Addr.off q; simp at this)]; exact k.c12, by rw [World.cell?_setCell_other _ _ _ _ (by intro q; have := congrArg Addr.off q; simp at this)]; exact k.c13, fun o => by rw [World.frozen?_setCell]; exact k.fr o, by simpa using k.lt⟩
theorem E14.set10 (k : E14 w b v0 v1 v2 v3 v4 v5 v6 v7 v8 v9 v10 v11 v12 v13) (x : Value) : E14 (w.setCell ⟨b, 10, none⟩ x) b v0 v1 v2 v3 v4 v5 v6 v7 v8 v9 x v11 v12 v13 :=
  ⟨by rw [World.cell?_setCell_other _ _ _ _ (by intro q; have := congrArg Addr.off q; simp at this)]; exact k.c0, by rw [World.cell?_setCell_other _ _ _ _ (by intro q; have := congrArg Addr.off q; simp at this)]; exact k.c1, by rw [World.cell?_setCell_other _ _ _ _ (by intro q; have := congrArg Addr.off q; simp at this)]; exact k.c2, by rw [World.cell?_setCell_other _ _ _ _ (by intro q; have := congrArg Addr.off q; simp at this)]; exact k.c3, by rw [World.cell?_setCell_other _ _ _ _ (by intro q; have := congrArg Addr.off q; simp at this)]; exact k.c4, by rw [World.cell?_setCell_other _ _ _ _ (by intro q; have := congrArg Addr.off q; simp at this)]; exact k.c5, by rw [World.cell?_setCell_other _ _ _ _ (by intro q; have := congrArg Addr.off q; simp at this)]; exact k.c6, by rw [World.cell?_setCell_other _ _ _ _ (by intro q; have := congrArg Addr.off q; simp at this)]; exact k.c7, by rw [World.cell?_setCell_other _ _ _ _ (by intro q; have := congrArg Addr.off q; simp at this)]; exact k.c8, by rw [World.cell?_setCell_other _ _ _ _ (by intro q; have := congrArg Addr.off q; simp at this)]; exact k.c9, World.cell?_setCell_same _ _ _ k.c10, by rw [World.cell?_setCell_other _ _ _ _ (by intro q; have := congrArg Addr.off q; simp at this)]; exact k.c11, by rw [World.cell?_setCell_other _ _ _ _ (by intro q; have := congrArg Addr.off q; simp at this)]; exact k.c12, by rw [World.cell?_setCell_other _ _ _ _ (by intro q; have := congrArg Addr.off q; simp at this)]; exact k.c13, fun o => by rw [World.frozen?_setCell]; exact k.fr o, by simpa using k.lt⟩
theorem E14.set11 (k : E14 w b v0 v1 v2 v3 v4 v5 v6 v7 v8 v9 v10 v11 v12 v13) (x : Value) : E14 (w.setCell ⟨b, 11, none⟩ x) b v0 v1 v2 v3 v4 v5 v6 v7 v8 v9 v10 x v12 v13 :=
  ⟨by rw [World.cell?_setCell_other _ _ _ _ (by intro q; have := congrArg Addr.off q; simp at this)]; exact k.c0, by rw [World.cell?_setCell_other _ _ _ _ (by intro q; have := congrArg Addr.off q; simp at this)]; exact k.c1, by rw [World.cell?_setCell_other _ _ _ _ (by intro q; have := congrArg Addr.off q; simp at this)]; exact k.c2, by rw [World.cell?_setCell_other _ _ _ _ (by intro q; have := congrArg Addr.off q; simp at this)]; exact k.c3, by rw [World.cell?_setCell_other _ _ _ _ (by intro q; have := congrArg Addr.off q; simp at this)]; exact k.c4, by rw [World.cell?_setCell_other _ _ _ _ (by intro q; have := congrArg Addr.off q; simp at this)]; exact k.c5, by rw [World.cell?_setCell_other _ _ _ _ (by intro q; have := congrArg Addr.off q; simp at this)]; exact k.c6, by rw [World.cell?_setCell_other _ _ _ _ (by intro q; have := congrArg Addr.off q; simp at this)]; exact k.c7, by rw [World.cell?_setCell_other _ _ _ _ (by intro q; have := congrArg Addr.off q; simp at this)]; exact k.c8, by rw [World.cell?_setCell_other _ _ _ _ (by intro q; have := congrArg Addr.off q; simp at this)]; exact k.c9, by rw [World.cell?_setCell_other _ _ _ _ (by intro q; have := congrArg Addr.off q; simp at this)]; exact k.c10, World.cell?_setCell_same _ _ _ k.c11, by rw [World.cell?_setCell_other _ _ _ _ (by intro q; have := congrArg Addr.off q; simp at this)]; exact k.c12, by rw [World.cell?_setCell_other _ _ _ _ (by intro q; have := congrArg Addr.off q; simp at this)]; exact k.c13, fun o => by rw [World.frozen?_setCell]; exact k.fr o, by simpa using k.lt⟩
theorem E14.set12 (k : E14 w b v0 v1 v2 v3 v4 v5 v6 v7 v8 v9 v10 v11 v12 v13) (x : Value) : E14 (w.setCell ⟨b, 12, none⟩ x) b v0 v1 v2 v3 v4 v5 v6 v7 v8 v9 v10 v11 x v13 :=
  ⟨by rw [World.cell?_setCell_other _ _ _ _ (by intro q; have := congrArg Addr.off q; simp at this)]; exact k.c0, by rw [World.cell?_setCell_other _ _ _ _ (by intro q; have := congrArg Addr.off q; simp at this)]; exact k.c1, by rw [World.cell?_setCell_other _ _ _ _ (by intro q; have := congrArg Addr.off q; simp at this)]; exact k.c2, by rw [World.cell?_setCell_other _ _ _ _ (by intro q; have := congrArg Addr.off q; simp at this)]; exact k.c3, by rw [World.cell?_setCell_other _ _ _ _ (by intro q; have := congrArg Addr.off q; simp at this)]; exact k.c4, by rw [World.cell?_setCell_other _ _ _ _ (by intro q; have := congrArg Addr.off q; simp at this)]; exact k.c5, by rw [World.cell?_setCell_other _ _ _ _ (by intro q; have := congrArg Addr.off q; simp at this)]; exact k.c6, by rw [World.cell?_setCell_other _ _ _ _ (by intro q; have := congrArg Addr.off q; simp at this)]; exact k.c7, by rw [World.cell?_setCell_other _ _ _ _ (by intro q; have := congrArg Addr.off q; simp at this)]; exact k.c8, by rw [World.cell?_setCell_other _ _ _ _ (by intro q; have := congrArg Addr.off q; simp at this)]; exact k.c9, by rw [World.cell?_setCell_other _ _ _ _ (by intro q; have := congrArg Addr.off q; simp at this)]; exact k.c10, by rw [World.cell?_setCell_other _ _ _ _ (by intro q; have := congrArg Addr.off q; simp at this)]; exact k.c11, World.cell?_setCell_same _ _ _ k.c12, by rw [World.cell?_setCell_other _ _ _ _ (by intro q; have := congrArg Addr.off q; simp at this)]; exact k.c13, fun o => by rw [World.frozen?_setCell]; exact k.fr o, by simpa using k.lt⟩
theorem E14.set13 (k : E14 w b v0 v1 v2 v3 v4 v5 v6 v7 v8 v9 v10 v11 v12 v13) (x : Value) : E14 (w.setCell ⟨b, 13, none⟩ x) b v0 v1 v2 v3 v4 v5 v6 v7 v8 v9 v10 v11 v12 x :=
  ⟨by rw [World.cell?_setCell_other _ _ _ _ (by intro q; have := congrArg Addr.off q; simp at this)]; exact k.c0, by rw [World.cell?_setCell_other _ _ _ _ (by intro q; have := congrArg Addr.off q; simp at this)]; exact k.c1, by rw [World.cell?_setCell_other _ _ _ _ (by intro q; have := congrArg Addr.off q; simp at this)]; exact k.c2, by rw [World.cell?_setCell_other _ _ _ _ (by intro q; have := congrArg Addr.off q; simp at this)]; exact k.c3, by rw [World.cell?_setCell_other _ _ _ _ (by intro q; have := congrArg Addr.off q; simp at this)]; exact k.c4, by rw [World.cell?_setCell_other _ _ _ _ (by intro q; have := congrArg Addr.off q; simp at this)]; exact k.c5, by rw [World.cell?_setCell_other _ _ _ _ (by intro q; have := congrArg Addr.off q; simp at this)]; exact k.c6, by rw [World.cell?_setCell_other _ _ _ _ (by intro q; have := congrArg Addr.off q; simp at this)]; exact k.c7, by rw [World.cell?_setCell_other _ _ _ _ (by intro q; have := congrArg Addr.off q; simp at this)]; exact k.c8, by rw [World.cell?_setCell_other _ _ _ _ (by intro q; have := congrArg Addr.off q; simp at this)]; exact k.c9, by rw [World.cell?_setCell_other _ _ _ _ (by intro q; have := congrArg Addr.off q; simp at this)]; exact k.c10, by rw [World.cell?_setCell_other _ _ _ _ (by intro q; have := congrArg Addr.off q; simp at this)]; exact k.c11, by rw [World.cell?_setCell_other _ _ _ _ (by intro q; have := congrArg Addr.off q; simp at this)]; exact k.c12, World.cell?_setCell_same _ _ _ k.c13, fun o => by rw [World.frozen?_setCell]; exact k.fr o, by simpa using k.lt⟩
end
end Go.Proofs.YtaphofdcoddopaaGreatDoor
/-
  An entry is looked for, by the model.
-/
namespace Go.Proofs.YtaphofdcoddopaaGreatDoor
open Go.ChangeShapes Go.WideShapes Go.ChangeAt Go.RowKit Go.Sort
def zeroEnt : Ent := ⟨⟨#[]⟩, 0, [], [], 0, 0, 0, 0, 0, false, false, [], 0⟩
def zeroR : EntR := ⟨none, 0, none, 0, none, 0⟩
theorem zeroRow (w : World) (base : Nat) : EntRow w base zeroEnt zeroR := ⟨World.ownsRow_nil _ _ _ _, World.ownsRow_nil _ _ _ _, World.ownsRow_nil _ _ _ _, .inl rfl, .inl rfl, .inl rfl⟩
def isKey (key : ByteArray) (x : Ent) : Bool := x.key.toList == key.toList
/-- What PeekEntry answers. -/
def peekR (bu gu : Int) (tl kl : List Ent) (key : ByteArray) : Int × Ent :=
  if storeC bu gu tl kl ≠ 0 then (storeC bu gu tl kl, zeroEnt) else
  match (tl ++ kl).find? (isKey key) with
  | none => (4, zeroEnt)
  | some x => (0, x)
theorem find_at : ∀ (l : List Ent) (key : ByteArray) (i : Nat) (x : Ent), l[i]? = some x → isKey key x = true → (∀ j y, j < i → l[j]? = some y → isKey key y = false) → l.find? (isKey key) = some x
  | [], _, i, x, h, _, _ => by simp at h
  | y :: l, key, 0, x, h, hk, _ => by
    simp at h; subst h
    simp [hk]
  | y :: l, key, i + 1, x, h, hk, hn => by
    have h0 := hn 0 y (by omega) (by simp)
    rw [List.find?_cons, h0]
    exact find_at l key i x (by simpa using h) hk (fun j z hj hz => hn (j + 1) z (by omega) (by simpa using hz))
theorem find_no (l : List Ent) (key : ByteArray) (h : ∀ (j : Nat) y, l[j]? = some y → isKey key y = false) : l.find? (isKey key) = none := by
  rw [List.find?_eq_none]
  intro x hx
  obtain ⟨j, hj⟩ := List.mem_iff_getElem?.1 hx
  rw [h j x hj]; simp
set_option maxHeartbeats 4000000 in
theorem l8Find_any (w : World) (a : Option Addr) (cap : Nat) (l : List (Ent × EntR)) (key : ByteArray) (hl : l.length ≤ 1000000) (hi : EntsIn w a l) :
    Calls Tryz.prog 104 #[.slice a l.length cap, .string key] w fun e w' => ((∃ (i : Nat) (q : Ent × EntR), l[i]? = some q ∧ isKey key q.1 = true ∧ (l.map Prod.fst).find? (isKey key) = some q.1 ∧ e = .returned (.int .i64 (i : Int))) ∨ ((l.map Prod.fst).find? (isKey key) = none ∧ e = .returned (.int .i64 (-1)))) ∧ Below w.heap.size w w' := by
  have HI : Hid (EntsIn w a l) := hi
  clear hi
  generalize hn : l.length = n at *
  have HN : Hid (l.length = n) := hn
  clear hn
  go_enter Tryz.func104, Tryz.ntmps104
  go_wp2_with fail
  go_loopw [5] (fun i wr => ∃ k : Nat, k ≤ n ∧ i = .int .i64 k ∧ (∀ (j : Nat) y, j < k → (l.map Prod.fst)[j]? = some y → isKey key y = false) ∧ Below w.heap.size w wr) (fun i _ => n - (intOf i).toNat)
  case atStart => exact ⟨0, Nat.zero_le _, rfl, fun j y h => absurd h (by omega), Below.refl _ _⟩
  case round =>
    obtain ⟨k, hk, rfl, hs, hb⟩ := hrel
    have HS : Hid (∀ (j : Nat) y, j < k → (l.map Prod.fst)[j]? = some y → isKey key y = false) := hs
    clear hs
    by_cases hlt : k < n
    · obtain ⟨q, hr⟩ : ∃ r, l[k]? = some r := ⟨l[k]'(by have := HN.out; omega), List.getElem?_eq_getElem _⟩
      rcases HI.out with h | ⟨b, off, rfl, hat⟩
      · subst h; simp at hr
      have p0 := ((hat.keep hb).cells hr).1
      have g : (k : Int) < n := by omega
      have g0 : (0 : Int) ≤ k := by omega
      have HM : Hid ((l.map Prod.fst)[k]? = some q.1) := by show _ = _; rw [List.getElem?_map, hr]; rfl
      have HR : Hid (l[k]? = some q) := hr
      clear hat hr
      cases he : (q.1.key.toList == key.toList)
      · have HS2 : Hid (∀ (j : Nat) y, j < k + 1 → (l.map Prod.fst)[j]? = some y → isKey key y = false) := by
          intro j y hj hy
          by_cases e : j = k
          · subst e
            rw [HM.out] at hy
            obtain rfl := Option.some.inj hy
            exact he
          · exact HS.out j y (by omega) hy
        generalize q.1.key = qk at *
        go_wp2_with fail
        go_roundw
        case rel => exact ⟨k + 1, by omega, by go_num, HS2.out, hb⟩
        case measure => simp [intOf]; omega
      · have HF : Hid (∃ (i : Nat) (q : Ent × EntR), l[i]? = some q ∧ isKey key q.1 = true ∧ (l.map Prod.fst).find? (isKey key) = some q.1 ∧ Ending.returned (.int .i64 ((k : Nat) : Int)) = .returned (.int .i64 (i : Int))) := ⟨k, q, HR.out, he, find_at _ key k q.1 HM.out he HS.out, rfl⟩
        obtain ⟨qk, hqk⟩ : ∃ x, q.1.key = x := ⟨_, rfl⟩
        rw [hqk] at p0 he
        go_wp2_with fail
        go_ret
        exact ⟨.inl HF.out, hb⟩
    · have HF : Hid ((l.map Prod.fst).find? (isKey key) = none) := find_no _ key (fun j y hy => HS.out j y (by have := (List.getElem?_eq_some_iff.1 hy).1; have := HN.out; simp at *; omega) hy)
      clear HS
      go_wp2_with fail
      go_ret
      exact ⟨.inr ⟨HF.out, rfl⟩, hb⟩
set_option maxRecDepth 100000 in
set_option maxHeartbeats 8000000 in
theorem l8Peek_at (w : World) (S : Nat) (key : ByteArray) (ta ka : Option Addr) (tc kc : Nat) (tl kl : List (Ent × EntR)) (c2 : w.cell? ⟨S, 2, none⟩ = some (.slice ta tl.length tc)) (c3 : w.cell? ⟨S, 3, none⟩ = some (.slice ka kl.length kc)) (hl : tl.length + kl.length ≤ 1000000) (hf : ∀ q ∈ tl ++ kl, q.1.hs.length ≤ 1048576 ∧ q.1.bl.length ≤ 1048576 ∧ q.1.ts.length ≤ 1048576) (ht : EntsIn w ta tl) (hk : EntsIn w ka kl) :
    Calls Tryz.prog 58 #[.pointer (some ⟨S, 0, none⟩), .string key] w fun e w' => ((∃ x r, (tl.map Prod.fst ++ kl.map Prod.fst).find? (isKey key) = some x ∧ e = .returned (.tuple #[entV x r, .bool true]) ∧ EntRow w' w.heap.size x r) ∨ ((tl.map Prod.fst ++ kl.map Prod.fst).find? (isKey key) = none ∧ e = .returned (.tuple #[entV zeroEnt zeroR, .bool false]))) ∧ Below w.heap.size w w' := by
  obtain ⟨W, hW⟩ : ∃ W, W = w.alloc (.cells #[.string ⟨#[]⟩, .int .i64 0, .slice none 0 0, .slice none 0 0, .int .i64 0, .int .i64 0, .int .i64 0, .int .i64 0, .int .i64 0, .bool false, .bool false, .slice none 0 0, .int .i64 0] 54) := ⟨_, rfl⟩
  have HW : Hid (W = w.alloc (.cells #[.string ⟨#[]⟩, .int .i64 0, .slice none 0 0, .slice none 0 0, .int .i64 0, .int .i64 0, .int .i64 0, .int .i64 0, .int .i64 0, .bool false, .bool false, .slice none 0 0, .int .i64 0] 54)) := hW
  have bW : Below w.heap.size w W := by rw [hW]; exact (Below.refl _ _).alloc (Nat.le_refl _) _
  have K0 : Hid (Below w.heap.size w W ∧ E13 W w.heap.size (.string ⟨#[]⟩) (.int .i64 0) (.slice none 0 0) (.slice none 0 0) (.int .i64 0) (.int .i64 0) (.int .i64 0) (.int .i64 0) (.int .i64 0) (.bool false) (.bool false) (.slice none 0 0) (.int .i64 0) ∧ W.heap.size = w.heap.size + 1) := ⟨bW, by rw [hW]; exact E13.new w _ _ _ _ _ _ _ _ _ _ _ _ _ _, by rw [hW]; simp⟩
  have hS : S < w.heap.size := block_lt_of_cell c2
  have CA : Hid (Calls Tryz.prog 103 #[.pointer (some ⟨S, 0, none⟩)] W fun e w' => (∃ v, e = .returned v ∧ OwnE w' W.heap.size v (tl ++ kl)) ∧ Below W.heap.size W w') := l8All_any W S 0 ta ka tc kc tl kl (by rw [bW.cell (p := ⟨S, 0 + 2, none⟩) hS]; exact c2) (by rw [bW.cell (p := ⟨S, 0 + 3, none⟩) hS]; exact c3) hl (ht.keep bW) (hk.keep bW)
  have HIN : Hid (∀ X, Below w.heap.size w X → ∀ q ∈ tl ++ kl, EntIn X q.1 q.2) := fun X hX q hq' => by
    rcases List.mem_append.1 hq' with h | h
    · rcases ht.keep hX with e | ⟨b, off, _, hat⟩
      · subst e; simp at h
      · obtain ⟨i, hi⟩ := List.mem_iff_getElem?.1 h; exact hat.in hi
    · rcases hk.keep hX with e | ⟨b, off, _, hat⟩
      · subst e; simp at h
      · obtain ⟨i, hi⟩ := List.mem_iff_getElem?.1 h; exact hat.in hi
  have HF : Hid (∀ q ∈ tl ++ kl, q.1.hs.length ≤ 1048576 ∧ q.1.bl.length ≤ 1048576 ∧ q.1.ts.length ≤ 1048576) := hf
  rw [← List.map_append]
  have hln : (tl ++ kl).length ≤ 1000000 := by rw [List.length_append]; exact hl
  clear hW bW c2 c3 ht hk hf hS
  generalize tl ++ kl = al at *
  go_enter Tryz.func58, Tryz.ntmps58
  go_wp2_with fail
  rw [← HW.out]
  refine CA.out.mono ?_
  rintro e w1 ⟨⟨v, rfl, ho⟩, hb1⟩
  have hbb := K0.out.1.trans (hb1.mono K0.out.1.size)
  obtain ⟨a, c, rfl, _, hi⟩ := ho.at (HIN.out _ hbb)
  have K1 : Hid (Below w.heap.size w w1 ∧ E13 w1 w.heap.size (.string ⟨#[]⟩) (.int .i64 0) (.slice none 0 0) (.slice none 0 0) (.int .i64 0) (.int .i64 0) (.int .i64 0) (.int .i64 0) (.int .i64 0) (.bool false) (.bool false) (.slice none 0 0) (.int .i64 0) ∧ w.heap.size + 1 ≤ w1.heap.size ∧ EntsIn w1 a al) := ⟨hbb, K0.out.2.1.keep hb1, by have := hb1.size; have := K0.out.2.2; omega, hi⟩
  have CF : Hid (Calls Tryz.prog 104 #[.slice a al.length c, .string key] w1 fun e w' => ((∃ (i : Nat) (q : Ent × EntR), al[i]? = some q ∧ isKey key q.1 = true ∧ (al.map Prod.fst).find? (isKey key) = some q.1 ∧ e = .returned (.int .i64 (i : Int))) ∨ ((al.map Prod.fst).find? (isKey key) = none ∧ e = .returned (.int .i64 (-1)))) ∧ Below w1.heap.size w1 w') := l8Find_any w1 a c al key hln hi
  clear K0 HW CA hb1 hbb ho hi
  go_wp2_with fail
  refine CF.out.mono ?_
  rintro e w2 ⟨hcase, hb2⟩
  have K2 : Hid (Below w.heap.size w w2 ∧ E13 w2 w.heap.size (.string ⟨#[]⟩) (.int .i64 0) (.slice none 0 0) (.slice none 0 0) (.int .i64 0) (.int .i64 0) (.int .i64 0) (.int .i64 0) (.int .i64 0) (.bool false) (.bool false) (.slice none 0 0) (.int .i64 0) ∧ w.heap.size + 1 ≤ w2.heap.size ∧ EntsIn w2 a al) := ⟨K1.out.1.trans (hb2.mono K1.out.1.size), K1.out.2.1.keep hb2, by have := hb2.size; have := K1.out.2.2.1; omega, K1.out.2.2.2.keep hb2⟩
  clear hb2 K1 CF
  rcases hcase with ⟨i, q, hq, _, hfind, rfl⟩ | ⟨hfind, rfl⟩
  · rcases K2.out.2.2.2 with e | ⟨b, off, rfl, hat⟩
    · subst e; simp at hq
    have ft := HF.out q (List.mem_of_getElem? hq)
    have CC : Hid (Calls Tryz.prog 105 #[.pointer (some ⟨b, off + i * 13, none⟩)] w2 fun e w' => (∃ r, e = .returned (entV q.1 r) ∧ EntRow w' w2.heap.size q.1 r) ∧ Below w2.heap.size w2 w') := l8ECopy_at w2 ⟨b, off + i * 13, q.1, q.2⟩ ft.1 ft.2.1 ft.2.2 (hat i q hq)
    have hil : i < al.length := (List.getElem?_eq_some_iff.1 hq).1
    have gi : (i : Int) < (al.length : Int) := by omega
    have gi0 : (0 : Int) ≤ i := by omega
    have HFD : Hid ((al.map Prod.fst).find? (isKey key) = some q.1) := hfind
    clear hq hat ft hfind HF HIN
    go_wp2_with fail
    refine CC.out.mono ?_
    rintro e w3 ⟨⟨r, rfl, hrow⟩, hb3⟩
    have K3 : Hid (Below w.heap.size w w3 ∧ E13 w3 w.heap.size (.string ⟨#[]⟩) (.int .i64 0) (.slice none 0 0) (.slice none 0 0) (.int .i64 0) (.int .i64 0) (.int .i64 0) (.int .i64 0) (.int .i64 0) (.bool false) (.bool false) (.slice none 0 0) (.int .i64 0) ∧ EntRow w3 (w.heap.size + 1) q.1 r) := ⟨K2.out.1.trans (hb3.mono K2.out.1.size), K2.out.2.1.keep hb3, hrow.lower K2.out.2.2.1⟩
    clear hb3 K2 hrow CC
    unfold entV entW
    have z0 := K3.out.2.1.c0
    have zf0 := K3.out.2.1.fr 0
    have z1 := K3.out.2.1.c1
    have zf1 := K3.out.2.1.fr 1
    have z2 := K3.out.2.1.c2
    have zf2 := K3.out.2.1.fr 2
    have z3 := K3.out.2.1.c3
    have zf3 := K3.out.2.1.fr 3
    have z4 := K3.out.2.1.c4
    have zf4 := K3.out.2.1.fr 4
    have z5 := K3.out.2.1.c5
    have zf5 := K3.out.2.1.fr 5
    have z6 := K3.out.2.1.c6
    have zf6 := K3.out.2.1.fr 6
    have z7 := K3.out.2.1.c7
    have zf7 := K3.out.2.1.fr 7
    have z8 := K3.out.2.1.c8
    have zf8 := K3.out.2.1.fr 8
    have z9 := K3.out.2.1.c9
    have zf9 := K3.out.2.1.fr 9
    have z10 := K3.out.2.1.c10
    have zf10 := K3.out.2.1.fr 10
    have z11 := K3.out.2.1.c11
    have zf11 := K3.out.2.1.fr 11
    have z12 := K3.out.2.1.c12
    have zf12 := K3.out.2.1.fr 12
    have FIN : Hid (∀ u0 u1 u2 u3 u4 u5 u6 u7 u8 u9 u10 u11 u12, EntRow (((((((((((((w3.setCell ⟨w.heap.size, 0, none⟩ u0).setCell ⟨w.heap.size, 1, none⟩ u1).setCell ⟨w.heap.size, 2, none⟩ u2).setCell ⟨w.heap.size, 3, none⟩ u3).setCell ⟨w.heap.size, 4, none⟩ u4).setCell ⟨w.heap.size, 5, none⟩ u5).setCell ⟨w.heap.size, 6, none⟩ u6).setCell ⟨w.heap.size, 7, none⟩ u7).setCell ⟨w.heap.size, 8, none⟩ u8).setCell ⟨w.heap.size, 9, none⟩ u9).setCell ⟨w.heap.size, 10, none⟩ u10).setCell ⟨w.heap.size, 11, none⟩ u11).setCell ⟨w.heap.size, 12, none⟩ u12) w.heap.size q.1 r ∧ Below w.heap.size w (((((((((((((w3.setCell ⟨w.heap.size, 0, none⟩ u0).setCell ⟨w.heap.size, 1, none⟩ u1).setCell ⟨w.heap.size, 2, none⟩ u2).setCell ⟨w.heap.size, 3, none⟩ u3).setCell ⟨w.heap.size, 4, none⟩ u4).setCell ⟨w.heap.size, 5, none⟩ u5).setCell ⟨w.heap.size, 6, none⟩ u6).setCell ⟨w.heap.size, 7, none⟩ u7).setCell ⟨w.heap.size, 8, none⟩ u8).setCell ⟨w.heap.size, 9, none⟩ u9).setCell ⟨w.heap.size, 10, none⟩ u10).setCell ⟨w.heap.size, 11, none⟩ u11).setCell ⟨w.heap.size, 12, none⟩ u12)) := fun u0 u1 u2 u3 u4 u5 u6 u7 u8 u9 u10 u11 u12 => ⟨(((((((((((((K3.out.2.2.off1 u0 (by omega)).off1 u1 (by omega)).off1 u2 (by omega)).off1 u3 (by omega)).off1 u4 (by omega)).off1 u5 (by omega)).off1 u6 (by omega)).off1 u7 (by omega)).off1 u8 (by omega)).off1 u9 (by omega)).off1 u10 (by omega)).off1 u11 (by omega)).off1 u12 (by omega)).lower (by omega), (((((((((((((K3.out.1.setCell (Nat.le_refl _) u0).setCell (Nat.le_refl _) u1).setCell (Nat.le_refl _) u2).setCell (Nat.le_refl _) u3).setCell (Nat.le_refl _) u4).setCell (Nat.le_refl _) u5).setCell (Nat.le_refl _) u6).setCell (Nat.le_refl _) u7).setCell (Nat.le_refl _) u8).setCell (Nat.le_refl _) u9).setCell (Nat.le_refl _) u10).setCell (Nat.le_refl _) u11).setCell (Nat.le_refl _) u12)⟩
    clear K3
    go_wp2_with fail
    exact bodyPost_ret (v := .tuple #[.agg #[.string q.1.key, .int .i64 q.1.st, .slice r.ha q.1.hs.length r.hc, .slice r.ba q.1.bl.length r.bc, .int .i64 q.1.t, .int .i64 q.1.g, .int .i64 q.1.l, .int .i64 q.1.s, .int .i64 q.1.e, .bool q.1.b1, .bool q.1.b2, .slice r.ta q.1.ts.length r.tc, .int .i64 q.1.pins], .bool true]) (by simp [results, Tryz.results58, go_sem, z0, z1, z2, z3, z4, z5, z6, z7, z8, z9, z10, z11, z12]) rfl ⟨.inl ⟨q.1, r, HFD.out, rfl, (FIN.out _ _ _ _ _ _ _ _ _ _ _ _ _).1⟩, (FIN.out _ _ _ _ _ _ _ _ _ _ _ _ _).2⟩
  · have HFD : Hid ((al.map Prod.fst).find? (isKey key) = none) := hfind
    clear hfind HF HIN
    have z0 := K2.out.2.1.c0
    have zf0 := K2.out.2.1.fr 0
    have z1 := K2.out.2.1.c1
    have zf1 := K2.out.2.1.fr 1
    have z2 := K2.out.2.1.c2
    have zf2 := K2.out.2.1.fr 2
    have z3 := K2.out.2.1.c3
    have zf3 := K2.out.2.1.fr 3
    have z4 := K2.out.2.1.c4
    have zf4 := K2.out.2.1.fr 4
    have z5 := K2.out.2.1.c5
    have zf5 := K2.out.2.1.fr 5
    have z6 := K2.out.2.1.c6
    have zf6 := K2.out.2.1.fr 6
    have z7 := K2.out.2.1.c7
    have zf7 := K2.out.2.1.fr 7
    have z8 := K2.out.2.1.c8
    have zf8 := K2.out.2.1.fr 8
    have z9 := K2.out.2.1.c9
    have zf9 := K2.out.2.1.fr 9
    have z10 := K2.out.2.1.c10
    have zf10 := K2.out.2.1.fr 10
    have z11 := K2.out.2.1.c11
    have zf11 := K2.out.2.1.fr 11
    have z12 := K2.out.2.1.c12
    have zf12 := K2.out.2.1.fr 12
    have FIN : Hid (∀ u0 u1 u2 u3 u4 u5 u6 u7 u8 u9 u10 u11 u12, Below w.heap.size w (((((((((((((w2.setCell ⟨w.heap.size, 0, none⟩ u0).setCell ⟨w.heap.size, 1, none⟩ u1).setCell ⟨w.heap.size, 2, none⟩ u2).setCell ⟨w.heap.size, 3, none⟩ u3).setCell ⟨w.heap.size, 4, none⟩ u4).setCell ⟨w.heap.size, 5, none⟩ u5).setCell ⟨w.heap.size, 6, none⟩ u6).setCell ⟨w.heap.size, 7, none⟩ u7).setCell ⟨w.heap.size, 8, none⟩ u8).setCell ⟨w.heap.size, 9, none⟩ u9).setCell ⟨w.heap.size, 10, none⟩ u10).setCell ⟨w.heap.size, 11, none⟩ u11).setCell ⟨w.heap.size, 12, none⟩ u12)) := fun u0 u1 u2 u3 u4 u5 u6 u7 u8 u9 u10 u11 u12 => (((((((((((((K2.out.1.setCell (Nat.le_refl _) u0).setCell (Nat.le_refl _) u1).setCell (Nat.le_refl _) u2).setCell (Nat.le_refl _) u3).setCell (Nat.le_refl _) u4).setCell (Nat.le_refl _) u5).setCell (Nat.le_refl _) u6).setCell (Nat.le_refl _) u7).setCell (Nat.le_refl _) u8).setCell (Nat.le_refl _) u9).setCell (Nat.le_refl _) u10).setCell (Nat.le_refl _) u11).setCell (Nat.le_refl _) u12)
    clear K2
    go_wp2_with fail
    exact bodyPost_ret (v := .tuple #[.agg #[.string ⟨#[]⟩, .int .i64 0, .slice none 0 0, .slice none 0 0, .int .i64 0, .int .i64 0, .int .i64 0, .int .i64 0, .int .i64 0, .bool false, .bool false, .slice none 0 0, .int .i64 0], .bool false]) (by simp [results, Tryz.results58, go_sem, z0, z1, z2, z3, z4, z5, z6, z7, z8, z9, z10, z11, z12]) rfl ⟨.inr ⟨HFD.out, rfl⟩, FIN.out _ _ _ _ _ _ _ _ _ _ _ _ _⟩
end Go.Proofs.YtaphofdcoddopaaGreatDoor
/-
  An entry is looked for, by the program; what all that look for a key ask ahead.
-/
namespace Go.Proofs.YtaphofdcoddopaaGreatDoor
open Go.ChangeShapes Go.WideShapes Go.ChangeAt Go.RowKit Go.Sort
/-- What find answers, of handles. -/
def FindH (l : List Hdl) (key : ByteArray) (v : Value) : Prop := (∃ h, h ∈ l ∧ (l.map Hdl.x).find? (isKey key) = some h.x ∧ v = .pointer (some ⟨h.b, h.o, none⟩)) ∨ ((l.map Hdl.x).find? (isKey key) = none ∧ v = .pointer none)
set_option maxRecDepth 100000 in
set_option maxHeartbeats 8000000 in
theorem findP_any (w : World) (v1 v2 : Value) (base : Nat) (l1 l2 : List Hdl) (key : ByteArray) (h : TwoP w base v1 v2 l1 l2) (hl : l1.length + l2.length ≤ 1000000) (hth : ∀ h ∈ l1 ++ l2, HThere w h) :
    Calls Tryz.prog 61 #[.agg #[v1, v2], .string key] w fun e w' => (∃ v, e = .returned v ∧ FindH (l1 ++ l2) key v) ∧ Below w.heap.size w w' := by
  obtain ⟨a1, k1, e1, _⟩ := h.a.form
  obtain ⟨a2, k2, e2, _⟩ := h.b.form
  obtain ⟨W, hW⟩ : ∃ W, W = w.alloc (.cells #[v1, v2] 85) := ⟨_, rfl⟩
  have HW : Hid (W = w.alloc (.cells #[v1, v2] 85)) := hW
  have bW : Below w.heap.size w W := by rw [hW]; exact (Below.refl _ _).alloc (Nat.le_refl _) _
  have CA : Hid (Calls Tryz.prog 106 #[.agg #[v1, v2]] W fun e w' => (∃ v, e = .returned v ∧ OwnP w' W.heap.size v (l1 ++ l2)) ∧ Below W.heap.size W w') := shAll_any W v1 v2 base l1 l2 (h.below bW) hl
  have HT : Hid (∀ X, Below w.heap.size w X → ∀ h ∈ l1 ++ l2, X.cell? ⟨h.b, h.o, none⟩ = some (.string h.x.key)) := fun X hX h hh => (((hth h hh).keep hX).cells).1
  have HB : Hid (Below w.heap.size w W) := bW
  have hln : (l1 ++ l2).length ≤ 1000000 := by rw [List.length_append]; exact hl
  clear hW bW h hth hl
  generalize l1 ++ l2 = al at *
  subst e1
  subst e2
  go_enter Tryz.func61, Tryz.ntmps61
  go_wp2_with fail
  rw [← HW.out]
  refine CA.out.mono ?_
  rintro e w1 ⟨⟨v, rfl, ho⟩, hb1⟩
  obtain ⟨av, ac, rfl, _, hf⟩ := ho.form
  have HB1 : Hid (Below w.heap.size w w1) := HB.out.trans (hb1.mono HB.out.size)
  have HC : Hid (∀ X, Below w1.heap.size w1 X → ∀ (k : Nat) h, al[k]? = some h → ∃ g, av = some ⟨g, 0, none⟩ ∧ X.cell? ⟨g, k, none⟩ = some (.pointer (some ⟨h.b, h.o, none⟩))) := fun X hX k h hk => by
    rcases hf with e | ⟨g, e, _, hg, hc⟩
    · rw [e] at hk; simp at hk
    · exact ⟨g, e, by rw [hX.cell (p := ⟨g, k, none⟩) hg]; exact hc k h hk⟩
  clear hf ho hb1 HB HW CA
  obtain ⟨n, hn⟩ : ∃ n, al.length = n := ⟨_, rfl⟩
  rw [hn] at hln ⊢
  have HN : Hid (al.length = n) := hn
  clear hn
  go_wp2_with fail
  go_loopw [10] (fun i wr => ∃ k : Nat, k ≤ n ∧ i = .int .i64 k ∧ (∀ (j : Nat) y, j < k → (al.map Hdl.x)[j]? = some y → isKey key y = false) ∧ Below w1.heap.size w1 wr) (fun i _ => n - (intOf i).toNat)
  case atStart => exact ⟨0, Nat.zero_le _, rfl, fun j y h => absurd h (by omega), Below.refl _ _⟩
  case round =>
    obtain ⟨k, hk, rfl, hs, hb⟩ := hrel
    have HS : Hid (∀ (j : Nat) y, j < k → (al.map Hdl.x)[j]? = some y → isKey key y = false) := hs
    clear hs
    have HBW : Hid (Below w.heap.size w wr) := HB1.out.trans (hb.mono HB1.out.size)
    by_cases hlt : k < n
    · obtain ⟨q, hr⟩ : ∃ r, al[k]? = some r := ⟨al[k]'(by have := HN.out; omega), List.getElem?_eq_getElem _⟩
      obtain ⟨g', rfl, p⟩ := HC.out wr hb k q hr
      have p0 := HT.out wr HBW.out q (List.mem_of_getElem? hr)
      have g : (k : Int) < n := by omega
      have g0 : (0 : Int) ≤ k := by omega
      have HM : Hid ((al.map Hdl.x)[k]? = some q.x) := by show _ = _; rw [List.getElem?_map, hr]; rfl
      have HQ : Hid (q ∈ al) := List.mem_of_getElem? hr
      clear hr
      cases he : (q.x.key.toList == key.toList)
      · have HS2 : Hid (∀ (j : Nat) y, j < k + 1 → (al.map Hdl.x)[j]? = some y → isKey key y = false) := by
          intro j y hj hy
          by_cases e : j = k
          · subst e
            rw [HM.out] at hy
            obtain rfl := Option.some.inj hy
            exact he
          · exact HS.out j y (by omega) hy
        generalize q.x.key = qk at *
        go_wp2_with fail
        go_roundw
        case rel => exact ⟨k + 1, by omega, by go_num, HS2.out, hb⟩
        case measure => simp [intOf]; omega
      · have HF : Hid (FindH al key (.pointer (some ⟨q.b, q.o, none⟩))) := .inl ⟨q, HQ.out, find_at _ key k q.x HM.out he HS.out, rfl⟩
        obtain ⟨qk, hqk⟩ : ∃ x, q.x.key = x := ⟨_, rfl⟩
        rw [hqk] at p0 he
        go_wp2_with fail
        go_ret
        exact ⟨⟨_, rfl, HF.out⟩, HBW.out⟩
    · have HF : Hid (FindH al key (.pointer none)) := .inr ⟨find_no _ key (fun j y hy => HS.out j y (by have := (List.getElem?_eq_some_iff.1 hy).1; have := HN.out; simp at *; omega) hy), rfl⟩
      clear HS
      go_wp2_with fail
      go_ret
      exact ⟨⟨_, rfl, HF.out⟩, HBW.out⟩
/-- The handles of a store. -/
def hdl2 (ta ka : Option Addr) (tl kl : List (Ent × EntR)) : List Hdl := hdlsA ta tl ++ hdlsA ka kl
theorem hdl2_x (ta ka : Option Addr) (tl kl : List (Ent × EntR)) : (hdl2 ta ka tl kl).map Hdl.x = tl.map Prod.fst ++ kl.map Prod.fst := by unfold hdl2; rw [List.map_append, hdlsA_x, hdlsA_x]
theorem hdl2_there {w : World} {ta ka : Option Addr} {tl kl : List (Ent × EntR)} (ht : EntsIn w ta tl) (hq : EntsIn w ka kl) : ∀ h ∈ hdl2 ta ka tl kl, HThere w h := fun h hh => by
  rcases List.mem_append.1 hh with hh | hh
  · exact hdlsA_there ht h hh
  · exact hdlsA_there hq h hh
def keyC (bu gu : Int) (tl kl : List Ent) (key : ByteArray) : Int := if storeC bu gu tl kl ≠ 0 then storeC bu gu tl kl else if (tl ++ kl).find? (isKey key) = none then 4 else 0
/-- Shelves, and an entry looked for on them. -/
theorem shFind_any (w : World) (bu gu : Int) (ta ka : Option Addr) (tc kc : Nat) (tl kl : List (Ent × EntR)) (key : ByteArray) (h0 : storeC bu gu (tl.map Prod.fst) (kl.map Prod.fst) = 0) (ht : EntsIn w ta tl) (hq : EntsIn w ka kl) :
    Calls Tryz.prog 52 #[.agg #[.int .i64 bu, .int .i64 gu, .slice ta tl.length tc, .slice ka kl.length kc]] w fun e w' => (∃ v1 v2, e = .returned (.agg #[v1, v2]) ∧ Calls Tryz.prog 61 #[.agg #[v1, v2], .string key] w' fun e w'' => (∃ v, e = .returned v ∧ FindH (hdl2 ta ka tl kl) key v) ∧ Below w'.heap.size w' w'') ∧ Below w.heap.size w w' := by
  obtain ⟨_, z2, _, _, _, _⟩ := storeC_zero h0
  rw [List.length_map, List.length_map] at z2
  refine (shelvesOf_any w bu gu ta ka tc kc tl kl (by omega) (by omega) ht hq).mono ?_
  rintro e w' ⟨⟨v1, v2, rfl, h2⟩, hb⟩
  exact ⟨⟨v1, v2, rfl, findP_any w' v1 v2 _ _ _ key h2 (by rw [hdlsA_len, hdlsA_len]; omega) (hdl2_there (ht.keep hb) (hq.keep hb))⟩, hb⟩
set_option maxHeartbeats 8000000 in
theorem keyFault_any (w : World) (bu gu : Int) (ta ka : Option Addr) (tc kc : Nat) (tl kl : List (Ent × EntR)) (key : ByteArray) (hset : SetIs w) (hl : tl.length ≤ 1048576) (hk : kl.length ≤ 1048576) (hto : ∀ q ∈ tl ++ kl, EntOk q.1) (ht : EntsIn w ta tl) (hq : EntsIn w ka kl) :
    Calls Tryz.prog 51 #[.agg #[.int .i64 bu, .int .i64 gu, .slice ta tl.length tc, .slice ka kl.length kc], .string key] w fun r w' => r = .returned (.int .i64 (keyC bu gu (tl.map Prod.fst) (kl.map Prod.fst) key)) ∧ Below w.heap.size w w' := by
  have HF : Hid (∀ X, Below w.heap.size w X → Calls Tryz.prog 76 #[.agg #[.int .i64 bu, .int .i64 gu, .slice ta tl.length tc, .slice ka kl.length kc]] X fun r w' => r = .returned (.int .i64 (storeC bu gu (tl.map Prod.fst) (kl.map Prod.fst))) ∧ Below X.heap.size X w') := fun X hb => implSto_any X bu gu ta ka tc kc tl kl (hset.below hb) hl hk hto (ht.keep hb) (hq.keep hb)
  have HC : Hid (storeC bu gu (tl.map Prod.fst) (kl.map Prod.fst) = 0 → ∀ X, Below w.heap.size w X → Calls Tryz.prog 52 #[.agg #[.int .i64 bu, .int .i64 gu, .slice ta tl.length tc, .slice ka kl.length kc]] X fun e w' => (∃ v1 v2, e = .returned (.agg #[v1, v2]) ∧ Calls Tryz.prog 61 #[.agg #[v1, v2], .string key] w' fun e w'' => (∃ v, e = .returned v ∧ FindH (hdl2 ta ka tl kl) key v) ∧ Below w'.heap.size w' w'') ∧ Below X.heap.size X w') := fun h0 X hX => shFind_any X bu gu ta ka tc kc tl kl key h0 (ht.keep hX) (hq.keep hX)
  obtain ⟨W, hW⟩ : ∃ W, W = w.alloc (.cells #[.int .i64 bu, .int .i64 gu, .slice ta tl.length tc, .slice ka kl.length kc] 28) := ⟨_, rfl⟩
  have HW : Hid (W = w.alloc (.cells #[.int .i64 bu, .int .i64 gu, .slice ta tl.length tc, .slice ka kl.length kc] 28)) := hW
  have K0 : Hid (Below w.heap.size w W ∧ S4 W w.heap.size (.int .i64 bu) (.int .i64 gu) (.slice ta tl.length tc) (.slice ka kl.length kc)) := by
    rw [hW]; exact ⟨(Below.refl _ _).alloc (Nat.le_refl _) _, S4.new w _ _ _ _ _⟩
  have HX : Hid (∀ v, FindH (hdl2 ta ka tl kl) key v → (∃ p, v = .pointer (some p) ∧ ¬ (tl.map Prod.fst ++ kl.map Prod.fst).find? (isKey key) = none) ∨ (v = .pointer none ∧ (tl.map Prod.fst ++ kl.map Prod.fst).find? (isKey key) = none)) := fun v hv => by
    rcases hv with ⟨h, _, e, rfl⟩ | ⟨e, rfl⟩
    · rw [hdl2_x] at e
      exact .inl ⟨_, rfl, by rw [e]; simp⟩
    · rw [hdl2_x] at e
      exact .inr ⟨rfl, e⟩
  obtain ⟨Z, hZ⟩ : ∃ Z, keyC bu gu (tl.map Prod.fst) (kl.map Prod.fst) key = Z := ⟨_, rfl⟩
  rw [hZ]
  unfold keyC at hZ
  have HZ : Hid (_ = Z) := hZ
  clear hZ hW hset hto ht hq hl hk
  obtain ⟨c, hc⟩ : ∃ c, storeC bu gu (tl.map Prod.fst) (kl.map Prod.fst) = c := ⟨_, rfl⟩
  rw [hc] at HF HC HZ
  clear hc
  generalize (tl.map Prod.fst ++ kl.map Prod.fst).find? (isKey key) = fo at *
  generalize tl.length = tn at *
  generalize kl.length = kn at *
  by_cases c0 : c = 0
  · subst c0
    have HC1 := HC.out rfl
    have HZ1 : Hid ((if fo = none then (4 : Int) else 0) = Z) := by show _ = _; have := HZ.out; simpa using this
    clear HC HZ
    go_enter Tryz.func51, Tryz.ntmps51
    go_wp2_with fail
    rw [← HW.out]
    refine (HF.out _ K0.out.1).mono ?_
    rintro r w1 ⟨rfl, hb1⟩
    have K1 : Hid (Below w.heap.size w w1 ∧ S4 w1 w.heap.size (.int .i64 bu) (.int .i64 gu) (.slice ta tn tc) (.slice ka kn kc)) := ⟨K0.out.1.trans (hb1.mono K0.out.1.size), K0.out.2.keep hb1⟩
    clear hb1 K0 HW HF
    have q0 := K1.out.2.c0
    have q1 := K1.out.2.c1
    have q2 := K1.out.2.c2
    have q3 := K1.out.2.c3
    go_wp2_with fail
    refine (HC1 _ K1.out.1).mono ?_
    rintro r w2 ⟨⟨v1, v2, rfl, C2⟩, hb2⟩
    have B2 : Hid (Below w.heap.size w w2) := K1.out.1.trans (hb2.mono K1.out.1.size)
    clear q0 q1 q2 q3 hb2 K1 HC1
    go_wp2_with fail
    refine C2.mono ?_
    rintro r w3 ⟨⟨v, rfl, hv⟩, hb3⟩
    have B3 : Hid (Below w.heap.size w w3) := B2.out.trans (hb3.mono B2.out.size)
    clear hb3 C2
    rcases HX.out v hv with ⟨p, rfl, hne⟩ | ⟨rfl, he⟩
    · have HE : Hid (0 = Z) := by have := HZ1.out; rw [if_neg hne] at this; exact this
      clear HZ1 hv HX
      go_wp2_with fail
      go_ret
      exact ⟨ret_int HE.out, B3.out⟩
    · have HE : Hid (4 = Z) := by have := HZ1.out; rw [if_pos he] at this; exact this
      clear HZ1 hv HX
      go_wp2_with fail
      go_ret
      exact ⟨ret_int HE.out, B3.out⟩
  · have HE : Hid (c = Z) := by have := HZ.out; rw [if_pos c0] at this; exact this
    clear HC HZ
    go_enter Tryz.func51, Tryz.ntmps51
    go_wp2_with fail
    rw [← HW.out]
    refine (HF.out _ K0.out.1).mono ?_
    rintro r w1 ⟨rfl, hb1⟩
    have B1 : Hid (Below w.heap.size w w1) := K0.out.1.trans (hb1.mono K0.out.1.size)
    clear hb1 K0 HW HF
    go_wp2_with fail
    go_ret
    exact ⟨ret_int HE.out, B1.out⟩
end Go.Proofs.YtaphofdcoddopaaGreatDoor
/-
  Pieces of the program's copying of an entry: lineOf, bytes.Clone, one more behind a row.
-/
namespace Go.Proofs.YtaphofdcoddopaaGreatDoor
open Go.ChangeShapes Go.WideShapes Go.ChangeAt Go.RowKit Go.Sort
set_option maxHeartbeats 2000000 in
theorem lineOf_anew (n z : ByteArray) (w : World) (hn : n.size ≤ 1048576) (hz : z.size ≤ 1048576) :
    Calls Tryz.prog 134 #[.string n, .string z] w fun e w' => e = .returned (.agg #[.string n, .string z]) ∧ Below w.heap.size w w' := by
  have C1 : Hid (∀ X, Calls Tryz.prog 124 #[.string n] X fun e w' => e = .returned (.string n) ∧ Below X.heap.size X w') := fun X => clone_text n X hn
  have C2 : Hid (∀ X, Calls Tryz.prog 124 #[.string z] X fun e w' => e = .returned (.string z) ∧ Below X.heap.size X w') := fun X => clone_text z X hz
  obtain ⟨W, hW⟩ : ∃ W, W = w.alloc (.cells #[.string ⟨#[]⟩, .string ⟨#[]⟩] 145) := ⟨_, rfl⟩
  have HW : Hid (W = w.alloc (.cells #[.string ⟨#[]⟩, .string ⟨#[]⟩] 145)) := hW
  have K0 : Hid (Below w.heap.size w W ∧ W.cell? ⟨w.heap.size, 0, none⟩ = some (.string ⟨#[]⟩) ∧ W.cell? ⟨w.heap.size, 1, none⟩ = some (.string ⟨#[]⟩) ∧ (∀ o, W.frozen? ⟨w.heap.size, o, none⟩ = false) ∧ w.heap.size < W.heap.size) := by
    rw [hW]; exact ⟨(Below.refl _ _).alloc (Nat.le_refl _) _, by simp, by simp, fun o => by simp, by simp⟩
  clear hW
  go_enter Tryz.func134, Tryz.ntmps134
  go_wp2_with fail
  rw [← HW.out]
  refine (C1.out _).mono ?_
  rintro e w1 ⟨rfl, hb1⟩
  go_wp2_with fail
  refine (C2.out _).mono ?_
  rintro e w2 ⟨rfl, hb2⟩
  have b2 : Below W.heap.size W w2 := hb1.trans (hb2.mono hb1.size)
  have r0 : w2.cell? ⟨w.heap.size, 0, none⟩ = some (.string ⟨#[]⟩) := by rw [b2.cell (p := ⟨w.heap.size, 0, none⟩) K0.out.2.2.2.2]; exact K0.out.2.1
  have r1 : w2.cell? ⟨w.heap.size, 1, none⟩ = some (.string ⟨#[]⟩) := by rw [b2.cell (p := ⟨w.heap.size, 1, none⟩) K0.out.2.2.2.2]; exact K0.out.2.2.1
  have f0 : w2.frozen? ⟨w.heap.size, 0, none⟩ = false := by rw [b2.frozen (p := ⟨w.heap.size, 0, none⟩) K0.out.2.2.2.2]; exact K0.out.2.2.2.1 0
  have f1 : w2.frozen? ⟨w.heap.size, 1, none⟩ = false := by rw [b2.frozen (p := ⟨w.heap.size, 1, none⟩) K0.out.2.2.2.2]; exact K0.out.2.2.2.1 1
  have HB : Hid (Below w.heap.size w w2) := K0.out.1.trans (b2.mono K0.out.1.size)
  clear hb1 hb2 b2 K0 HW C1 C2
  go_wp2_with fail
  exact bodyPost_ret (v := .agg #[.string n, .string z]) (by simp [results, Tryz.results134, go_sem, r0, r1]) rfl ⟨rfl, (HB.out.setCell (Nat.le_refl _) _).setCell (Nat.le_refl _) _⟩
set_option maxRecDepth 100000 in
set_option maxHeartbeats 4000000 in
theorem bClone_any (w : World) (a : Option Addr) (cap : Nat) (l : List UInt8) (hl : l.length ≤ 1048576) (hi : BIn w a l) :
    Calls Tryz.prog 133 #[.slice a l.length cap] w fun e w' => (∃ v, e = .returned v ∧ RowB w' w.heap.size v l) ∧ Below w.heap.size w w' := by
  cases a with
  | none =>
    have e : l = [] := by
      rcases hi with h | ⟨b, off, h, _⟩
      · exact h
      · cases h
    subst e
    clear hi
    have hnil := fun w => Lib.run_eql_slice_nil (P := Tryz.prog) w 41 5 none 0 cap 0 0 Tryz.underlying41
    simp only [Option.isNone_none] at hnil
    go_enter Tryz.func133, Tryz.ntmps133
    go_wp2_with fail
    go_ret
    exact ⟨⟨_, rfl, World.ownsRow_nil _ _ _ _⟩, Below.refl _ _⟩
  | some p =>
    obtain ⟨i0, hi0, hz0, hz1, hz2⟩ := info_parts cByteI
    have B1 : Hid (Below w.heap.size w (w.alloc (.cells #[] 5))) := (Below.refl _ _).alloc (Nat.le_refl _) _
    have O1 : Hid ((w.alloc (.cells #[] 5)).ownsRow w.heap.size 5 1 (.slice (some ⟨w.heap.size, 0, none⟩) 0 0) 0 []) := World.ownsRow_made w #[] 0 (Nat.le_refl _) (by unfold maxLen; omega) rfl
    have HIN : Hid (l.length = 0 ∨ ∃ ad, some p = some ad ∧ ∀ j u, (cBytes l)[j]? = some u → (w.alloc (.cells #[] 5)).cell? (ad.add j) = some u) := cBytes_in (hi.keep B1.out)
    have HLN : Hid ((cBytes l).length = l.length * 1) := by show _ = _; unfold cBytes; simp
    have HRW : Hid (∀ X v, X.ownsRow w.heap.size 5 1 v (0 + l.length) ([] ++ cBytes l) → RowB X w.heap.size v l) := fun X v h => by rw [Nat.zero_add, List.nil_append] at h; exact h
    clear hi
    generalize hn : l.length = n at *
    clear hn
    have hnil := fun w => Lib.run_eql_slice_nil (P := Tryz.prog) w 41 5 (some p) n cap 0 0 Tryz.underlying41
    simp only [Option.isNone_some] at hnil
    go_enter Tryz.func133, Tryz.ntmps133
    go_wp2_with (at_builtin; refine wpList_plain rfl fun _ hK => wp_append_in _ (.tmp 5) (.tmp 6) 41 5 rfl i0 _ 1 1 Tryz.underlying41 hi0 hz0 hz1 hz2 rfl (by omega) w.heap.size _ 0 [] rfl O1.out (some p) cap n (cBytes l) rfl HLN.out HIN.out (cOneB l) (by unfold maxLen; omega) (by omega) B1.out.size (fun v' w' h1 h2 _ => hK _ _ ?_))
    go_ret
    exact ⟨⟨_, rfl, HRW.out _ _ h1⟩, B1.out.trans h2⟩
end Go.Proofs.YtaphofdcoddopaaGreatDoor
/-
  A region that draws its order, whose last operation waits for all others: what is held of the world is held behind each operation but that last one.
-/
namespace Go.Proofs.YtaphofdcoddopaaGreatDoor
open Go Go.ChangeShapes Go.WideShapes Go.ChangeAt Go.RowKit
section
variable {P : Program} {ops : Array Oper} {Q : Exit → Act → World → Prop} {S : World → Prop} {m : Nat}
/-- Whatever may come up; behind it S is shown, but where it was operation m. -/
def butLast (P : Program) (ops : Array Oper) (Q : Exit → Act → World → Prop) (S : World → Prop) (m : Nat) : Nat → Array Bool → Act → World → Prop
  | 0, done, a, w => Region.ready .any ops done = [] ∧ Q .normal a w
  | n + 1, done, a, w => (Region.ready .any ops done = [] → Q .normal a w) ∧
      ∀ i ∈ Region.ready .any ops done, wpOp P ops Q i (fun a' w' => (i = m ∨ S w') ∧ butLast P ops Q S m n (done.setIfInBounds i true) a' w') a w
theorem butLast_any : ∀ (n : Nat) (done : Array Bool) (a : Act) (w : World), butLast P ops Q S m n done a w → wpAny P .any ops Q n done a w := by
  intro n
  induction n with
  | zero => intro done a w h; exact h
  | succ n ih => intro done a w h; exact ⟨h.1, fun i hi => wpOp_mono (fun a' w' k => ih _ a' w' k.2) (h.2 i hi)⟩
theorem ready_not_done {done : Array Bool} {i : Nat} (h : i ∈ Region.ready .any ops done) (k : done.getD i false = true) : False := by
  have q := (mem_ready.1 h).1
  rcases Nat.lt_or_ge i done.size with z | z
  · simp [z] at q k
    rw [q] at k
    cases k
  · simp [Array.getElem?_eq_none z] at k
/-- While operation i has not come up, one that waits for it cannot. -/
theorem waits_not {done : Array Bool} {i j : Nat} (hi : i ∈ Region.ready .any ops done) (hj : j ∈ Region.ready .any ops done) (hw : Region.waitsFor .any ops j i = true) : False := by
  obtain ⟨oj, hoj, e, he, hb, rfl⟩ := Region.waitsFor_spec hw
  obtain ⟨_, oj', hoj', hall⟩ := mem_ready.1 hj
  rw [hoj] at hoj'
  cases hoj'
  exact ready_not_done hi (hall e he hb)
/-- One that yields in every world that meets S may be taken first, if the last one waits for it. -/
theorem butLast_first {i : Nat} {oi : Oper} {v : Value} (hi : ops[i]? = some oi) (hsel : ∀ (j : Nat) (o : Oper) cs b, ops[j]? = some o → o.op ≠ .select cs b)
    (hw : Region.waitsFor .any ops m i = true) (hQ : ∀ c a w, Q (.panic c) (a.put oi.dst v) w → Q (.panic c) a w) :
    ∀ (n : Nat) (done : Array Bool) (a : Act) (w : World), (∀ j oj, ops[j]? = some oj → j ≠ i → done.getD j true = false → (∀ e ∈ oj.after, Region.binds .any e = true → e.on ≠ i) → oi.apart ops oj = true) →
      i ∈ Region.ready .any ops done → YieldsIf P ops S oi v a → S w → butLast P ops Q S m n (done.setIfInBounds i true) (a.put oi.dst v) w → butLast P ops Q S m (n + 1) done a w := by
  intro n
  induction n with
  | zero =>
    intro done a w _ hr hy hS H
    refine ⟨fun z => (by rw [z] at hr; cases hr), fun j hj => ?_⟩
    by_cases e : j = i
    · rw [e]; exact hy.wpOp hi hS ⟨.inr hS, H⟩
    · have k := ready_mono hj e
      rw [H.1] at k
      cases k
  | succ n ih =>
    intro done a w hap hr hy hS H
    refine ⟨fun z => (by rw [z] at hr; cases hr), fun j hj => ?_⟩
    by_cases e : j = i
    · rw [e]; exact hy.wpOp hi hS ⟨.inr hS, H⟩
    · have hjm : j ≠ m := fun q => waits_not hr hj (by rw [q]; exact hw)
      obtain ⟨hun, oj, hoj, hall⟩ := mem_ready.1 hj
      have hno : ∀ x ∈ oj.after, Region.binds .any x = true → x.on ≠ i := fun x hx hb q => ready_not_done hr (by have := hall x hx hb; rwa [q] at this)
      have step := wpOp_putIf hoj (hap j oj hoj e hun hno) (fun cs b => hsel i oi cs b hi) (fun cs b => hsel j oj cs b hoj) hQ hy (H.2 j (ready_mono hj e))
      refine wpOp_mono (fun a' w' k => ?_) step
      have hS' : S w' := k.2.1.resolve_left hjm
      refine ⟨.inr hS', ih (done.setIfInBounds j true) a' w' (fun c oc hc hci hcu hcn => hap c oc hc hci ?_ hcn) (ready_mono hr (Ne.symm e)) k.1 hS' ?_⟩
      · by_cases q : j = c
        · rw [← q]; exact hun
        · rwa [getD_set_ne true q] at hcu
      · rw [Array.setIfInBounds_comm _ _ e]
        exact k.2.2
theorem butLast_take {i : Nat} {oi : Oper} {v : Value} {n : Nat} {done : Array Bool} {a : Act} {w : World} (hi : ops[i]? = some oi) (hs : Region.noSelect ops = true)
    (hf : Region.free .any ops done i = true) (hr : (Region.ready .any ops done).contains i = true) (hw : Region.waitsFor .any ops m i = true)
    (hQ : ∀ c a w, Q (.panic c) (a.put oi.dst v) w → Q (.panic c) a w) (hy : YieldsIf P ops S oi v a) (hS : S w)
    (h : butLast P ops Q S m n (done.setIfInBounds i true) (a.put oi.dst v) w) : butLast P ops Q S m (n + 1) done a w :=
  butLast_first hi (Region.noSelect_spec hs) hw hQ n done a w (Region.free_spec hi hf) (by simpa using hr) hy hS h
/-- Only one may come up. -/
theorem butLast_one {i n : Nat} {o : Oper} {done : Array Bool} {a : Act} {w : World} (ho : ops[i]? = some o) (hr : Region.ready .any ops done = [i])
    (h : ∀ K : Act → World → Prop, (∀ a' w', (i = m ∨ S w') → butLast P ops Q S m n (done.setIfInBounds i true) a' w' → K a' w') → if Region.wanted o (yielded ops a.tmps) = true then Oper.wp P o a w K Q else K (a.put o.dst undef) w) :
    butLast P ops Q S m (n + 1) done a w := by
  refine ⟨fun z => (by rw [z] at hr; cases hr), fun j hj => ?_⟩
  rw [hr, List.mem_singleton] at hj
  rw [hj]
  exact wpOp_step ho fun K hK => h K fun a' w' h1 h2 => hK a' w' ⟨h1, h2⟩
theorem butLast_end {done : Array Bool} {a : Act} {w : World} {n : Nat} (hr : Region.ready .any ops done = []) (h : Q .normal a w) : butLast P ops Q S m n done a w := by
  cases n with
  | zero => exact ⟨hr, h⟩
  | succ n => exact ⟨fun _ => h, by rw [hr]; simp⟩
theorem wp_region_last (S : World → Prop) (m : Nat) {id : Nat} {a : Act} {w : World} (hm : P.follows .mixedOrders = true) (h : butLast P ops Q S m ops.size (Array.replicate ops.size false) a w.drew) : (Code.region id ops true).wp P Q a w :=
  wp_region_any hm (butLast_any _ _ _ _ h)
end
end Go.Proofs.YtaphofdcoddopaaGreatDoor
/-
  An entry that is copied, by the program.
-/
namespace Go.Proofs.YtaphofdcoddopaaGreatDoor
open Go.ChangeShapes Go.WideShapes Go.ChangeAt Go.RowKit Go.Sort
/-- While an entry is being copied: the result's room R, the new one A. -/
structure AN (w : World) (h : Hdl) (R A : Nat) (hv bv tv : Value) (W : World) : Prop where
  r : E13 W R (.string ⟨#[]⟩) (.int .i64 0) (.slice none 0 0) (.slice none 0 0) (.int .i64 0) (.int .i64 0) (.int .i64 0) (.int .i64 0) (.int .i64 0) (.bool false) (.bool false) (.slice none 0 0) (.int .i64 0)
  a : E13 W A (.string h.x.key) (.int .i64 h.x.st) hv bv (.int .i64 h.x.t) (.int .i64 h.x.g) (.int .i64 h.x.l) (.int .i64 h.x.s) (.int .i64 h.x.e) (.bool h.x.b1) (.bool h.x.b2) tv (.int .i64 h.x.pins)
  b : RowB W (R + 1) bv h.x.bl
  bA : ∀ q, bv.ownBlock = some q → q ≠ A
  bl : Below w.heap.size w W
  ra : R < A
  rw : w.heap.size = R
theorem AN.below {w W W' : World} {h : Hdl} {R A : Nat} {hv bv tv : Value} (k : AN w h R A hv bv tv W) (hb : Below W.heap.size W W') : AN w h R A hv bv tv W' := ⟨k.r.keep hb, k.a.keep hb, row_below k.b hb, k.bA, k.bl.trans (hb.mono k.bl.size), k.ra, k.rw⟩
theorem row_ne {w : World} {base : Nat} {e : TypeId} {size : Nat} {v : Value} {n : Nat} {xs : List Value} (h : w.ownsRow base e size v n xs) {A i : Nat} (u : Value) (hA : ∀ q, v.ownBlock = some q → q ≠ A) : (w.setCell ⟨A, i, none⟩ u).ownsRow base e size v n xs := by
  obtain ⟨h1, h2⟩ := h
  refine ⟨h1, ?_⟩
  rcases h2 with h2 | ⟨g, c, cur, e', hg, hh, hrest⟩
  · exact .inl h2
  · exact .inr ⟨g, c, cur, e', hg, by rw [heap_setCell_other w ⟨A, i, none⟩ g u (by have := hA g (by rw [e']; rfl); exact this)]; exact hh, hrest⟩
theorem AN.set2 {w W : World} {h : Hdl} {R A : Nat} {hv bv tv : Value} (k : AN w h R A hv bv tv W) (u : Value) : AN w h R A u bv tv (W.setCell ⟨A, 2, none⟩ u) := ⟨k.r.off (by have := k.ra; omega), k.a.set2 u, row_ne k.b u k.bA, k.bA, k.bl.setCell (by have := k.ra; have := k.rw; simp only; omega) u, k.ra, k.rw⟩
theorem AN.set11 {w W : World} {h : Hdl} {R A : Nat} {hv bv tv : Value} (k : AN w h R A hv bv tv W) (u : Value) : AN w h R A hv bv u (W.setCell ⟨A, 11, none⟩ u) := ⟨k.r.off (by have := k.ra; omega), k.a.set11 u, row_ne k.b u k.bA, k.bA, k.bl.setCell (by have := k.ra; have := k.rw; simp only; omega) u, k.ra, k.rw⟩
theorem an_of {w X wb : World} {h : Hdl} {R A : Nat} {bv : Value} (hR : w.heap.size = R) (kb : Below w.heap.size w X) (k1 : E13 X R (.string ⟨#[]⟩) (.int .i64 0) (.slice none 0 0) (.slice none 0 0) (.int .i64 0) (.int .i64 0) (.int .i64 0) (.int .i64 0) (.int .i64 0) (.bool false) (.bool false) (.slice none 0 0) (.int .i64 0)) (k2 : E13 X A (.string ⟨#[]⟩) (.int .i64 0) (.slice none 0 0) (.slice none 0 0) (.int .i64 0) (.int .i64 0) (.int .i64 0) (.int .i64 0) (.int .i64 0) (.bool false) (.bool false) (.slice none 0 0) (.int .i64 0)) (hsz : R + 1 ≤ X.heap.size) (hRA : R < A) (rb : RowB wb X.heap.size bv h.x.bl) (hbb : Below X.heap.size X wb) : AN w h R A (.slice none 0 0) bv (.slice none 0 0) (((((((((((((wb.setCell ⟨A, 0, none⟩ (.string h.x.key)).setCell ⟨A, 1, none⟩ (.int .i64 h.x.st)).setCell ⟨A, 2, none⟩ (.slice none 0 0)).setCell ⟨A, 3, none⟩ bv).setCell ⟨A, 4, none⟩ (.int .i64 h.x.t)).setCell ⟨A, 5, none⟩ (.int .i64 h.x.g)).setCell ⟨A, 6, none⟩ (.int .i64 h.x.l)).setCell ⟨A, 7, none⟩ (.int .i64 h.x.s)).setCell ⟨A, 8, none⟩ (.int .i64 h.x.e)).setCell ⟨A, 9, none⟩ (.bool h.x.b1)).setCell ⟨A, 10, none⟩ (.bool h.x.b2)).setCell ⟨A, 11, none⟩ (.slice none 0 0)).setCell ⟨A, 12, none⟩ (.int .i64 h.x.pins)) := by
  have hne : ∀ q, bv.ownBlock = some q → q ≠ A := fun q hq => by
    have := (World.ownsRow.lt rb q hq).1
    have := k2.lt
    omega
  have bb := kb.trans (hbb.mono kb.size)
  have hlo : w.heap.size ≤ A := by omega
  exact ⟨((((((((((((((k1.keep hbb).off (by omega)).off (by omega)).off (by omega)).off (by omega)).off (by omega)).off (by omega)).off (by omega)).off (by omega)).off (by omega)).off (by omega)).off (by omega)).off (by omega)).off (by omega)), (k2.keep hbb).all _ _ _ _ _ _ _ _ _ _ _ _ _, row_lower (row_ne (row_ne (row_ne (row_ne (row_ne (row_ne (row_ne (row_ne (row_ne (row_ne (row_ne (row_ne (row_ne rb _ hne) _ hne) _ hne) _ hne) _ hne) _ hne) _ hne) _ hne) _ hne) _ hne) _ hne) _ hne) _ hne) hsz, hne, (((((((((((((bb.setCell hlo _).setCell hlo _).setCell hlo _).setCell hlo _).setCell hlo _).setCell hlo _).setCell hlo _).setCell hlo _).setCell hlo _).setCell hlo _).setCell hlo _).setCell hlo _).setCell hlo _), hRA, hR⟩
theorem an_new {w wb : World} {h : Hdl} {R : Nat} {bv : Value} (hR : w.heap.size = R) (kb : Below w.heap.size w wb) (k1 : E13 wb R (.string ⟨#[]⟩) (.int .i64 0) (.slice none 0 0) (.slice none 0 0) (.int .i64 0) (.int .i64 0) (.int .i64 0) (.int .i64 0) (.int .i64 0) (.bool false) (.bool false) (.slice none 0 0) (.int .i64 0)) (hsz : R + 1 ≤ wb.heap.size) (rb : RowB wb (R + 1) bv h.x.bl) : AN w h R wb.heap.size (.slice none 0 0) bv (.slice none 0 0) (wb.alloc (.cells #[.string h.x.key, .int .i64 h.x.st, .slice none 0 0, bv, .int .i64 h.x.t, .int .i64 h.x.g, .int .i64 h.x.l, .int .i64 h.x.s, .int .i64 h.x.e, .bool h.x.b1, .bool h.x.b2, .slice none 0 0, .int .i64 h.x.pins] 54)) := by
  have a : Below wb.heap.size wb (wb.alloc (.cells #[.string h.x.key, .int .i64 h.x.st, .slice none 0 0, bv, .int .i64 h.x.t, .int .i64 h.x.g, .int .i64 h.x.l, .int .i64 h.x.s, .int .i64 h.x.e, .bool h.x.b1, .bool h.x.b2, .slice none 0 0, .int .i64 h.x.pins] 54)) := (Below.refl _ _).alloc (Nat.le_refl _) _
  exact ⟨k1.keep a, E13.new wb _ _ _ _ _ _ _ _ _ _ _ _ _ _, row_below rb a, fun q hq => by have := (World.ownsRow.lt rb q hq).2; omega, kb.trans (a.mono kb.size), by omega, hR⟩
theorem an_grow {w X X' : World} {h : Hdl} {R A m : Nat} {hv bv tv : Value} (k : AN w h R A hv bv tv X) (hb : Below m X X') (hA : A < m) (hB : ∀ q, bv.ownBlock = some q → q < m) : AN w h R A hv bv tv X' := by
  have hR : R < m := Nat.lt_trans k.ra hA
  have hw : w.heap.size ≤ m := by have := k.rw; omega
  refine ⟨⟨?_, ?_, ?_, ?_, ?_, ?_, ?_, ?_, ?_, ?_, ?_, ?_, ?_, fun o => ?_, Nat.lt_of_lt_of_le k.r.lt hb.size⟩, ⟨?_, ?_, ?_, ?_, ?_, ?_, ?_, ?_, ?_, ?_, ?_, ?_, ?_, fun o => ?_, Nat.lt_of_lt_of_le k.a.lt hb.size⟩, ?_, k.bA, k.bl.trans (hb.mono hw), k.ra, k.rw⟩
  · rw [hb.cell (p := ⟨R, 0, none⟩) hR]; exact k.r.c0
  · rw [hb.cell (p := ⟨R, 1, none⟩) hR]; exact k.r.c1
  · rw [hb.cell (p := ⟨R, 2, none⟩) hR]; exact k.r.c2
  · rw [hb.cell (p := ⟨R, 3, none⟩) hR]; exact k.r.c3
  · rw [hb.cell (p := ⟨R, 4, none⟩) hR]; exact k.r.c4
  · rw [hb.cell (p := ⟨R, 5, none⟩) hR]; exact k.r.c5
  · rw [hb.cell (p := ⟨R, 6, none⟩) hR]; exact k.r.c6
  · rw [hb.cell (p := ⟨R, 7, none⟩) hR]; exact k.r.c7
  · rw [hb.cell (p := ⟨R, 8, none⟩) hR]; exact k.r.c8
  · rw [hb.cell (p := ⟨R, 9, none⟩) hR]; exact k.r.c9
  · rw [hb.cell (p := ⟨R, 10, none⟩) hR]; exact k.r.c10
  · rw [hb.cell (p := ⟨R, 11, none⟩) hR]; exact k.r.c11
  · rw [hb.cell (p := ⟨R, 12, none⟩) hR]; exact k.r.c12
  · rw [hb.frozen (p := ⟨R, o, none⟩) hR]; exact k.r.fr o
  · rw [hb.cell (p := ⟨A, 0, none⟩) hA]; exact k.a.c0
  · rw [hb.cell (p := ⟨A, 1, none⟩) hA]; exact k.a.c1
  · rw [hb.cell (p := ⟨A, 2, none⟩) hA]; exact k.a.c2
  · rw [hb.cell (p := ⟨A, 3, none⟩) hA]; exact k.a.c3
  · rw [hb.cell (p := ⟨A, 4, none⟩) hA]; exact k.a.c4
  · rw [hb.cell (p := ⟨A, 5, none⟩) hA]; exact k.a.c5
  · rw [hb.cell (p := ⟨A, 6, none⟩) hA]; exact k.a.c6
  · rw [hb.cell (p := ⟨A, 7, none⟩) hA]; exact k.a.c7
  · rw [hb.cell (p := ⟨A, 8, none⟩) hA]; exact k.a.c8
  · rw [hb.cell (p := ⟨A, 9, none⟩) hA]; exact k.a.c9
  · rw [hb.cell (p := ⟨A, 10, none⟩) hA]; exact k.a.c10
  · rw [hb.cell (p := ⟨A, 11, none⟩) hA]; exact k.a.c11
  · rw [hb.cell (p := ⟨A, 12, none⟩) hA]; exact k.a.c12
  · rw [hb.frozen (p := ⟨A, o, none⟩) hA]; exact k.a.fr o
  · obtain ⟨h1, h2⟩ := k.b
    refine ⟨h1, ?_⟩
    rcases h2 with h2 | ⟨g, c, cur, e, hg, hh, hrest⟩
    · exact .inl h2
    · exact .inr ⟨g, c, cur, e, hg, by rw [hb.block g (hB g (by rw [e]; rfl))]; exact hh, hrest⟩
theorem row_keep {w w' : World} {m base : Nat} {e : TypeId} {size : Nat} {v : Value} {n : Nat} {xs : List Value} (h : w.ownsRow base e size v n xs) (hb : Below m w w') (hm : ∀ q, v.ownBlock = some q → q < m) : w'.ownsRow base e size v n xs := by
  obtain ⟨h1, h2⟩ := h
  refine ⟨h1, ?_⟩
  rcases h2 with h2 | ⟨g, c, cur, e', hg, hh, hrest⟩
  · exact .inl h2
  · exact .inr ⟨g, c, cur, e', hg, by rw [hb.block g (hm g (by rw [e']; rfl))]; exact hh, hrest⟩
theorem ne_blk {a b : Option Addr} {n c n' c' m : Nat} (h1 : ∀ q, Value.ownBlock (.slice a n c) = some q → m ≤ q) (h2 : ∀ q, Value.ownBlock (.slice b n' c') = some q → q < m) : a = none ∨ a ≠ b := by
  cases a with
  | none => exact .inl rfl
  | some p =>
    refine .inr fun e => ?_
    subst e
    have := h1 p.block rfl
    have := h2 p.block rfl
    omega
theorem ne_blk2 {a b : Option Addr} {n c n' c' m : Nat} (h1 : ∀ q, Value.ownBlock (.slice a n c) = some q → q < m) (h2 : ∀ q, Value.ownBlock (.slice b n' c') = some q → m ≤ q) : a = none ∨ a ≠ b := by
  cases a with
  | none => exact .inl rfl
  | some p =>
    refine .inr fun e => ?_
    subst e
    have := h1 p.block rfl
    have := h2 p.block rfl
    omega
theorem heads_small {x : Ent} (hz : entC x = 0) : ∀ r ∈ x.hs, r.name.size ≤ 1048576 ∧ r.value.size ≤ 1048576 := fun r hr => by
  obtain ⟨_, _, _, z4, _, _, _⟩ := entryC_zero hz
  obtain ⟨_, hfl⟩ := headsC_zero z4
  obtain ⟨i, hi⟩ := List.mem_iff_getElem?.1 hr
  obtain ⟨x1, x2, _⟩ := faultH_zero (hfl i r hi)
  exact ⟨Nat.le_trans (hword_max x1) (by omega), by omega⟩
set_option linter.unusedSimpArgs false in
set_option maxRecDepth 100000 in
set_option maxHeartbeats 64000000 in
theorem anew_at (w : World) (h : Hdl) (hz : entC h.x = 0) (hts : ∀ t ∈ h.x.ts, t.size ≤ 1048576) (ht : HThere w h) :
    Calls Tryz.prog 100 #[.pointer (some ⟨h.b, h.o, none⟩)] w fun e w' => (∃ r, e = .returned (entV h.x r) ∧ EntRow w' w.heap.size h.x r) ∧ Below w.heap.size w w' := by
  obtain ⟨z1, _, _, z4, z5, z6, _⟩ := entryC_zero hz
  obtain ⟨z20, _⟩ := headsC_zero z4
  have HSM : Hid (∀ r ∈ h.x.hs, r.name.size ≤ 1048576 ∧ r.value.size ≤ 1048576) := heads_small hz
  have HTS : Hid (∀ t ∈ h.x.ts, t.size ≤ 1048576) := hts
  have HS : Hid (∀ X, Below w.heap.size w X → HThere X h) := fun X hX => ht.keep hX
  have CK : Hid (∀ X, Calls Tryz.prog 124 #[.string h.x.key] X fun e w' => e = .returned (.string h.x.key) ∧ Below X.heap.size X w') := fun X => clone_text _ X (by omega)
  have CB : Hid (∀ X, Below w.heap.size w X → Calls Tryz.prog 133 #[.slice h.r.ba h.x.bl.length h.r.bc] X fun e w' => (∃ v, e = .returned v ∧ RowB w' X.heap.size v h.x.bl) ∧ Below X.heap.size X w') := fun X hX => bClone_any X _ _ _ (by omega) (ht.keep hX).2.b
  obtain ⟨W, hW⟩ : ∃ W, W = w.alloc (.cells #[.string ⟨#[]⟩, .int .i64 0, .slice none 0 0, .slice none 0 0, .int .i64 0, .int .i64 0, .int .i64 0, .int .i64 0, .int .i64 0, .bool false, .bool false, .slice none 0 0, .int .i64 0] 54) := ⟨_, rfl⟩
  have HW : Hid (W = w.alloc (.cells #[.string ⟨#[]⟩, .int .i64 0, .slice none 0 0, .slice none 0 0, .int .i64 0, .int .i64 0, .int .i64 0, .int .i64 0, .int .i64 0, .bool false, .bool false, .slice none 0 0, .int .i64 0] 54)) := hW
  have K0 : Hid (Below w.heap.size w W ∧ E13 W w.heap.size (.string ⟨#[]⟩) (.int .i64 0) (.slice none 0 0) (.slice none 0 0) (.int .i64 0) (.int .i64 0) (.int .i64 0) (.int .i64 0) (.int .i64 0) (.bool false) (.bool false) (.slice none 0 0) (.int .i64 0) ∧ W.heap.size = w.heap.size + 1) := by
    rw [hW]; exact ⟨(Below.refl _ _).alloc (Nat.le_refl _) _, E13.new w _ _ _ _ _ _ _ _ _ _ _ _ _ _, by simp⟩
  have HKS : Hid (∀ X, Below w.heap.size w X → X.cell? ⟨h.b, h.o, none⟩ = some (.string h.x.key) ∧ X.cell? ⟨h.b, h.o + 1, none⟩ = some (.int .i64 h.x.st) ∧ X.cell? ⟨h.b, h.o + 3, none⟩ = some (.slice h.r.ba h.x.bl.length h.r.bc) ∧ X.cell? ⟨h.b, h.o + 4, none⟩ = some (.int .i64 h.x.t) ∧ X.cell? ⟨h.b, h.o + 5, none⟩ = some (.int .i64 h.x.g) ∧ X.cell? ⟨h.b, h.o + 6, none⟩ = some (.int .i64 h.x.l) ∧ X.cell? ⟨h.b, h.o + 7, none⟩ = some (.int .i64 h.x.s) ∧ X.cell? ⟨h.b, h.o + 8, none⟩ = some (.int .i64 h.x.e) ∧ X.cell? ⟨h.b, h.o + 9, none⟩ = some (.bool h.x.b1) ∧ X.cell? ⟨h.b, h.o + 10, none⟩ = some (.bool h.x.b2) ∧ X.cell? ⟨h.b, h.o + 12, none⟩ = some (.int .i64 h.x.pins)) := fun X hX => by
    have c := (HS.out X hX).cells
    exact ⟨c.1, c.2.1, c.2.2.2.1, c.2.2.2.2.1, c.2.2.2.2.2.1, c.2.2.2.2.2.2.1, c.2.2.2.2.2.2.2.1, c.2.2.2.2.2.2.2.2.1, c.2.2.2.2.2.2.2.2.2.1, c.2.2.2.2.2.2.2.2.2.2.1, c.2.2.2.2.2.2.2.2.2.2.2.2⟩
  have X0 : Hid (Below w.heap.size w W.drew ∧ E13 W.drew w.heap.size (.string ⟨#[]⟩) (.int .i64 0) (.slice none 0 0) (.slice none 0 0) (.int .i64 0) (.int .i64 0) (.int .i64 0) (.int .i64 0) (.int .i64 0) (.bool false) (.bool false) (.slice none 0 0) (.int .i64 0) ∧ w.heap.size + 1 ≤ W.drew.heap.size ∧ W.heap.size = w.heap.size + 1) := by
    have b : Below W.heap.size W W.drew := (Below.refl _ _).drew
    exact ⟨K0.out.1.trans (b.mono K0.out.1.size), K0.out.2.1.keep b, by have := b.size; have := K0.out.2.2; omega, K0.out.2.2⟩
  have X1 : Hid (Below w.heap.size w (W.alloc (.cells #[.string ⟨#[]⟩, .int .i64 0, .slice none 0 0, .slice none 0 0, .int .i64 0, .int .i64 0, .int .i64 0, .int .i64 0, .int .i64 0, .bool false, .bool false, .slice none 0 0, .int .i64 0] 54)).drew ∧ E13 (W.alloc (.cells #[.string ⟨#[]⟩, .int .i64 0, .slice none 0 0, .slice none 0 0, .int .i64 0, .int .i64 0, .int .i64 0, .int .i64 0, .int .i64 0, .bool false, .bool false, .slice none 0 0, .int .i64 0] 54)).drew w.heap.size (.string ⟨#[]⟩) (.int .i64 0) (.slice none 0 0) (.slice none 0 0) (.int .i64 0) (.int .i64 0) (.int .i64 0) (.int .i64 0) (.int .i64 0) (.bool false) (.bool false) (.slice none 0 0) (.int .i64 0) ∧ E13 (W.alloc (.cells #[.string ⟨#[]⟩, .int .i64 0, .slice none 0 0, .slice none 0 0, .int .i64 0, .int .i64 0, .int .i64 0, .int .i64 0, .int .i64 0, .bool false, .bool false, .slice none 0 0, .int .i64 0] 54)).drew W.heap.size (.string ⟨#[]⟩) (.int .i64 0) (.slice none 0 0) (.slice none 0 0) (.int .i64 0) (.int .i64 0) (.int .i64 0) (.int .i64 0) (.int .i64 0) (.bool false) (.bool false) (.slice none 0 0) (.int .i64 0) ∧ w.heap.size + 1 ≤ (W.alloc (.cells #[.string ⟨#[]⟩, .int .i64 0, .slice none 0 0, .slice none 0 0, .int .i64 0, .int .i64 0, .int .i64 0, .int .i64 0, .int .i64 0, .bool false, .bool false, .slice none 0 0, .int .i64 0] 54)).drew.heap.size) := by
    have b : Below W.heap.size W (W.alloc (.cells #[.string ⟨#[]⟩, .int .i64 0, .slice none 0 0, .slice none 0 0, .int .i64 0, .int .i64 0, .int .i64 0, .int .i64 0, .int .i64 0, .bool false, .bool false, .slice none 0 0, .int .i64 0] 54)) := (Below.refl _ _).alloc (Nat.le_refl _) _
    have b' : Below (W.alloc (.cells #[.string ⟨#[]⟩, .int .i64 0, .slice none 0 0, .slice none 0 0, .int .i64 0, .int .i64 0, .int .i64 0, .int .i64 0, .int .i64 0, .bool false, .bool false, .slice none 0 0, .int .i64 0] 54)).heap.size (W.alloc (.cells #[.string ⟨#[]⟩, .int .i64 0, .slice none 0 0, .slice none 0 0, .int .i64 0, .int .i64 0, .int .i64 0, .int .i64 0, .int .i64 0, .bool false, .bool false, .slice none 0 0, .int .i64 0] 54)) (W.alloc (.cells #[.string ⟨#[]⟩, .int .i64 0, .slice none 0 0, .slice none 0 0, .int .i64 0, .int .i64 0, .int .i64 0, .int .i64 0, .int .i64 0, .bool false, .bool false, .slice none 0 0, .int .i64 0] 54)).drew := (Below.refl _ _).drew
    have bb := K0.out.1.trans (b.mono K0.out.1.size)
    exact ⟨bb.trans (b'.mono bb.size), (K0.out.2.1.keep b).keep b', (E13.new W _ _ _ _ _ _ _ _ _ _ _ _ _ _).keep b', by have := b.size; have := b'.size; have := K0.out.2.2; omega⟩
  have HAL : Hid (∀ X cs, Below w.heap.size w X → Below w.heap.size w (X.alloc (.cells cs 54))) := fun X cs hX => hX.alloc hX.size _
  clear hW ht hts K0
  go_enter Tryz.func100, Tryz.ntmps100
  go_wp2_with fail
  rw [← HW.out]
  clear HW
  go_region_held3 (fun X => X.cell? ⟨h.b, h.o, none⟩ = some (.string h.x.key) ∧ X.cell? ⟨h.b, h.o + 1, none⟩ = some (.int .i64 h.x.st) ∧ X.cell? ⟨h.b, h.o + 3, none⟩ = some (.slice h.r.ba h.x.bl.length h.r.bc) ∧ X.cell? ⟨h.b, h.o + 4, none⟩ = some (.int .i64 h.x.t) ∧ X.cell? ⟨h.b, h.o + 5, none⟩ = some (.int .i64 h.x.g) ∧ X.cell? ⟨h.b, h.o + 6, none⟩ = some (.int .i64 h.x.l) ∧ X.cell? ⟨h.b, h.o + 7, none⟩ = some (.int .i64 h.x.s) ∧ X.cell? ⟨h.b, h.o + 8, none⟩ = some (.int .i64 h.x.e) ∧ X.cell? ⟨h.b, h.o + 9, none⟩ = some (.bool h.x.b1) ∧ X.cell? ⟨h.b, h.o + 10, none⟩ = some (.bool h.x.b2) ∧ X.cell? ⟨h.b, h.o + 12, none⟩ = some (.int .i64 h.x.pins))
    (first | ((with_reducible refine HKS.out _ ?_); (with_reducible exact ZB.out.bl)) | ((with_reducible refine HKS.out _ ?_); (with_reducible exact XB.out)) | ((with_reducible refine HKS.out _ ?_); (with_reducible exact YA.out.1)) | ((with_reducible refine HKS.out _ ?_); (with_reducible exact XA.out.1)) | ((with_reducible refine HKS.out _ ?_); (with_reducible exact X1.out.1)) | ((with_reducible refine HKS.out _ ?_); (with_reducible exact X0.out.1)) | ((with_reducible refine HKS.out _ ?_); (with_reducible refine HAL.out _ _ ?_); (with_reducible exact XB.out)))
    (first
    | (go_at_call 124; refine (CK.out (W.alloc (.cells #[.string ⟨#[]⟩, .int .i64 0, .slice none 0 0, .slice none 0 0, .int .i64 0, .int .i64 0, .int .i64 0, .int .i64 0, .int .i64 0, .bool false, .bool false, .slice none 0 0, .int .i64 0] 54)).drew).mono ?_; rintro e0 wa ⟨rfl, hba⟩; have YA : Hid (Below w.heap.size w wa ∧ E13 wa w.heap.size (.string ⟨#[]⟩) (.int .i64 0) (.slice none 0 0) (.slice none 0 0) (.int .i64 0) (.int .i64 0) (.int .i64 0) (.int .i64 0) (.int .i64 0) (.bool false) (.bool false) (.slice none 0 0) (.int .i64 0) ∧ E13 wa W.heap.size (.string ⟨#[]⟩) (.int .i64 0) (.slice none 0 0) (.slice none 0 0) (.int .i64 0) (.int .i64 0) (.int .i64 0) (.int .i64 0) (.int .i64 0) (.bool false) (.bool false) (.slice none 0 0) (.int .i64 0) ∧ w.heap.size + 1 ≤ wa.heap.size) := ⟨X1.out.1.trans (hba.mono X1.out.1.size), X1.out.2.1.keep hba, X1.out.2.2.1.keep hba, Nat.le_trans X1.out.2.2.2 hba.size⟩; have O1 : Hid True := trivial; clear hba)
    | (go_at_call 124; refine (CK.out W.drew).mono ?_; rintro e0 wa ⟨rfl, hba⟩; have XA : Hid (Below w.heap.size w wa ∧ E13 wa w.heap.size (.string ⟨#[]⟩) (.int .i64 0) (.slice none 0 0) (.slice none 0 0) (.int .i64 0) (.int .i64 0) (.int .i64 0) (.int .i64 0) (.int .i64 0) (.bool false) (.bool false) (.slice none 0 0) (.int .i64 0) ∧ w.heap.size + 1 ≤ wa.heap.size) := ⟨X0.out.1.trans (hba.mono X0.out.1.size), X0.out.2.1.keep hba, Nat.le_trans X0.out.2.2.1 hba.size⟩; have YA : Hid (Below w.heap.size w (wa.alloc (.cells #[.string ⟨#[]⟩, .int .i64 0, .slice none 0 0, .slice none 0 0, .int .i64 0, .int .i64 0, .int .i64 0, .int .i64 0, .int .i64 0, .bool false, .bool false, .slice none 0 0, .int .i64 0] 54)) ∧ E13 (wa.alloc (.cells #[.string ⟨#[]⟩, .int .i64 0, .slice none 0 0, .slice none 0 0, .int .i64 0, .int .i64 0, .int .i64 0, .int .i64 0, .int .i64 0, .bool false, .bool false, .slice none 0 0, .int .i64 0] 54)) w.heap.size (.string ⟨#[]⟩) (.int .i64 0) (.slice none 0 0) (.slice none 0 0) (.int .i64 0) (.int .i64 0) (.int .i64 0) (.int .i64 0) (.int .i64 0) (.bool false) (.bool false) (.slice none 0 0) (.int .i64 0) ∧ E13 (wa.alloc (.cells #[.string ⟨#[]⟩, .int .i64 0, .slice none 0 0, .slice none 0 0, .int .i64 0, .int .i64 0, .int .i64 0, .int .i64 0, .int .i64 0, .bool false, .bool false, .slice none 0 0, .int .i64 0] 54)) wa.heap.size (.string ⟨#[]⟩) (.int .i64 0) (.slice none 0 0) (.slice none 0 0) (.int .i64 0) (.int .i64 0) (.int .i64 0) (.int .i64 0) (.int .i64 0) (.bool false) (.bool false) (.slice none 0 0) (.int .i64 0) ∧ w.heap.size + 1 ≤ (wa.alloc (.cells #[.string ⟨#[]⟩, .int .i64 0, .slice none 0 0, .slice none 0 0, .int .i64 0, .int .i64 0, .int .i64 0, .int .i64 0, .int .i64 0, .bool false, .bool false, .slice none 0 0, .int .i64 0] 54)).heap.size) := ⟨XA.out.1.alloc XA.out.1.size _, XA.out.2.1.keep ((Below.refl _ _).alloc (Nat.le_refl _) _), E13.new wa _ _ _ _ _ _ _ _ _ _ _ _ _ _, Nat.le_trans XA.out.2.2 (by simp)⟩; clear hba)
    | (go_at_call 133; have hO1 := O1; refine (CB.out wa YA.out.1).mono ?_; rintro e0 wb ⟨⟨bv, rfl, rb⟩, hbb⟩; obtain ⟨b2, k2, rfl, _⟩ := row_form rb; have ZB : Hid (AN w h w.heap.size W.heap.size (.slice none 0 0) (.slice b2 h.x.bl.length k2) (.slice none 0 0) (((((((((((((wb.setCell ⟨W.heap.size, 0, none⟩ (.string h.x.key)).setCell ⟨W.heap.size, 1, none⟩ (.int .i64 h.x.st)).setCell ⟨W.heap.size, 2, none⟩ (.slice none 0 0)).setCell ⟨W.heap.size, 3, none⟩ (.slice b2 h.x.bl.length k2)).setCell ⟨W.heap.size, 4, none⟩ (.int .i64 h.x.t)).setCell ⟨W.heap.size, 5, none⟩ (.int .i64 h.x.g)).setCell ⟨W.heap.size, 6, none⟩ (.int .i64 h.x.l)).setCell ⟨W.heap.size, 7, none⟩ (.int .i64 h.x.s)).setCell ⟨W.heap.size, 8, none⟩ (.int .i64 h.x.e)).setCell ⟨W.heap.size, 9, none⟩ (.bool h.x.b1)).setCell ⟨W.heap.size, 10, none⟩ (.bool h.x.b2)).setCell ⟨W.heap.size, 11, none⟩ (.slice none 0 0)).setCell ⟨W.heap.size, 12, none⟩ (.int .i64 h.x.pins))) := an_of rfl YA.out.1 YA.out.2.1 YA.out.2.2.1 YA.out.2.2.2 (by have := X0.out.2.2.2; omega) rb hbb; obtain ⟨zz0, zz1, zz2, zz3, zz4, zz5, zz6, zz7, zz8, zz9, zz10, zz11, zz12, zfr, _⟩ := YA.out.2.2.1.keep hbb; have zf0 := zfr 0; have zf1 := zfr 1; have zf2 := zfr 2; have zf3 := zfr 3; have zf4 := zfr 4; have zf5 := zfr 5; have zf6 := zfr 6; have zf7 := zfr 7; have zf8 := zfr 8; have zf9 := zfr 9; have zf10 := zfr 10; have zf11 := zfr 11; have zf12 := zfr 12; clear zfr; have XB : Hid (Below w.heap.size w wb) := YA.out.1.trans (hbb.mono YA.out.1.size); clear hbb rb hO1)
    | (go_at_call 133; refine (CB.out (wa.alloc (.cells #[.string ⟨#[]⟩, .int .i64 0, .slice none 0 0, .slice none 0 0, .int .i64 0, .int .i64 0, .int .i64 0, .int .i64 0, .int .i64 0, .bool false, .bool false, .slice none 0 0, .int .i64 0] 54)) YA.out.1).mono ?_; rintro e0 wb ⟨⟨bv, rfl, rb⟩, hbb⟩; obtain ⟨b2, k2, rfl, _⟩ := row_form rb; have ZB : Hid (AN w h w.heap.size wa.heap.size (.slice none 0 0) (.slice b2 h.x.bl.length k2) (.slice none 0 0) (((((((((((((wb.setCell ⟨wa.heap.size, 0, none⟩ (.string h.x.key)).setCell ⟨wa.heap.size, 1, none⟩ (.int .i64 h.x.st)).setCell ⟨wa.heap.size, 2, none⟩ (.slice none 0 0)).setCell ⟨wa.heap.size, 3, none⟩ (.slice b2 h.x.bl.length k2)).setCell ⟨wa.heap.size, 4, none⟩ (.int .i64 h.x.t)).setCell ⟨wa.heap.size, 5, none⟩ (.int .i64 h.x.g)).setCell ⟨wa.heap.size, 6, none⟩ (.int .i64 h.x.l)).setCell ⟨wa.heap.size, 7, none⟩ (.int .i64 h.x.s)).setCell ⟨wa.heap.size, 8, none⟩ (.int .i64 h.x.e)).setCell ⟨wa.heap.size, 9, none⟩ (.bool h.x.b1)).setCell ⟨wa.heap.size, 10, none⟩ (.bool h.x.b2)).setCell ⟨wa.heap.size, 11, none⟩ (.slice none 0 0)).setCell ⟨wa.heap.size, 12, none⟩ (.int .i64 h.x.pins))) := an_of rfl YA.out.1 YA.out.2.1 YA.out.2.2.1 YA.out.2.2.2 (by have := XA.out.2.2; omega) rb hbb; obtain ⟨zz0, zz1, zz2, zz3, zz4, zz5, zz6, zz7, zz8, zz9, zz10, zz11, zz12, zfr, _⟩ := YA.out.2.2.1.keep hbb; have zf0 := zfr 0; have zf1 := zfr 1; have zf2 := zfr 2; have zf3 := zfr 3; have zf4 := zfr 4; have zf5 := zfr 5; have zf6 := zfr 6; have zf7 := zfr 7; have zf8 := zfr 8; have zf9 := zfr 9; have zf10 := zfr 10; have zf11 := zfr 11; have zf12 := zfr 12; clear zfr; have XB : Hid (Below w.heap.size w wb) := YA.out.1.trans (hbb.mono YA.out.1.size); clear hbb rb)
    | (go_at_call 133; refine (CB.out wa XA.out.1).mono ?_; rintro e0 wb ⟨⟨bv, rfl, rb⟩, hbb⟩; obtain ⟨b2, k2, rfl, _⟩ := row_form rb; have XB : Hid (Below w.heap.size w wb) := XA.out.1.trans (hbb.mono XA.out.1.size); have RB : Hid (RowB wb (w.heap.size + 1) (.slice b2 h.x.bl.length k2) h.x.bl ∧ E13 wb w.heap.size (.string ⟨#[]⟩) (.int .i64 0) (.slice none 0 0) (.slice none 0 0) (.int .i64 0) (.int .i64 0) (.int .i64 0) (.int .i64 0) (.int .i64 0) (.bool false) (.bool false) (.slice none 0 0) (.int .i64 0) ∧ w.heap.size + 1 ≤ wb.heap.size) := ⟨row_lower rb XA.out.2.2, XA.out.2.1.keep hbb, Nat.le_trans XA.out.2.2 hbb.size⟩; clear hbb rb))
  all_goals
    first
    | (obtain ⟨A, V, hA, hV, Q0⟩ : ∃ A V, Hid (W.heap.size = A) ∧ Hid ((((((((((((((wb.setCell ⟨W.heap.size, 0, none⟩ (.string h.x.key)).setCell ⟨W.heap.size, 1, none⟩ (.int .i64 h.x.st)).setCell ⟨W.heap.size, 2, none⟩ (.slice none 0 0)).setCell ⟨W.heap.size, 3, none⟩ (.slice b2 h.x.bl.length k2)).setCell ⟨W.heap.size, 4, none⟩ (.int .i64 h.x.t)).setCell ⟨W.heap.size, 5, none⟩ (.int .i64 h.x.g)).setCell ⟨W.heap.size, 6, none⟩ (.int .i64 h.x.l)).setCell ⟨W.heap.size, 7, none⟩ (.int .i64 h.x.s)).setCell ⟨W.heap.size, 8, none⟩ (.int .i64 h.x.e)).setCell ⟨W.heap.size, 9, none⟩ (.bool h.x.b1)).setCell ⟨W.heap.size, 10, none⟩ (.bool h.x.b2)).setCell ⟨W.heap.size, 11, none⟩ (.slice none 0 0)).setCell ⟨W.heap.size, 12, none⟩ (.int .i64 h.x.pins)) = V) ∧ Hid (AN w h w.heap.size A (.slice none 0 0) (.slice b2 h.x.bl.length k2) (.slice none 0 0) V) := ⟨_, _, rfl, rfl, ZB⟩; rw [hV.out, hA.out]; clear hV hA ZB)
    | (obtain ⟨A, V, hA, hV, Q0⟩ : ∃ A V, Hid (wa.heap.size = A) ∧ Hid ((((((((((((((wb.setCell ⟨wa.heap.size, 0, none⟩ (.string h.x.key)).setCell ⟨wa.heap.size, 1, none⟩ (.int .i64 h.x.st)).setCell ⟨wa.heap.size, 2, none⟩ (.slice none 0 0)).setCell ⟨wa.heap.size, 3, none⟩ (.slice b2 h.x.bl.length k2)).setCell ⟨wa.heap.size, 4, none⟩ (.int .i64 h.x.t)).setCell ⟨wa.heap.size, 5, none⟩ (.int .i64 h.x.g)).setCell ⟨wa.heap.size, 6, none⟩ (.int .i64 h.x.l)).setCell ⟨wa.heap.size, 7, none⟩ (.int .i64 h.x.s)).setCell ⟨wa.heap.size, 8, none⟩ (.int .i64 h.x.e)).setCell ⟨wa.heap.size, 9, none⟩ (.bool h.x.b1)).setCell ⟨wa.heap.size, 10, none⟩ (.bool h.x.b2)).setCell ⟨wa.heap.size, 11, none⟩ (.slice none 0 0)).setCell ⟨wa.heap.size, 12, none⟩ (.int .i64 h.x.pins)) = V) ∧ Hid (AN w h w.heap.size A (.slice none 0 0) (.slice b2 h.x.bl.length k2) (.slice none 0 0) V) := ⟨_, _, rfl, rfl, ZB⟩; rw [hV.out, hA.out]; clear hV hA ZB)
    | (obtain ⟨A, V, hA, hV, Q0⟩ : ∃ A V, Hid (wb.heap.size = A) ∧ Hid (wb.alloc (.cells #[.string h.x.key, .int .i64 h.x.st, .slice none 0 0, .slice b2 h.x.bl.length k2, .int .i64 h.x.t, .int .i64 h.x.g, .int .i64 h.x.l, .int .i64 h.x.s, .int .i64 h.x.e, .bool h.x.b1, .bool h.x.b2, .slice none 0 0, .int .i64 h.x.pins] 54) = V) ∧ Hid (AN w h w.heap.size A (.slice none 0 0) (.slice b2 h.x.bl.length k2) (.slice none 0 0) V) := ⟨_, _, rfl, rfl, an_new rfl XB.out RB.out.2.1 RB.out.2.2 RB.out.1⟩; rw [hV.out, hA.out]; clear hV hA RB)
    clear HKS X0 X1 HAL CK CB
    have p2 := ((HS.out V Q0.out.bl).cells).2.2.1
    go_wp2_with fail
    clear p2
    obtain ⟨m1, hm1⟩ : ∃ m, Hid (V.heap.size = m) := ⟨_, rfl⟩
    have HAm : Hid (A < m1) := by show A < m1; rw [← hm1.out]; exact Q0.out.a.lt
    have HRm : Hid (∀ q, Value.ownBlock (.slice b2 h.x.bl.length k2) = some q → q < m1) := fun q hq => by rw [← hm1.out]; exact (World.ownsRow.lt Q0.out.b q hq).2
    go_loopw [36] (fun i wr => ∃ (k : Nat) (v : Value), k ≤ h.x.hs.length ∧ i = .int .i64 k ∧ AN w h w.heap.size A v (.slice b2 h.x.bl.length k2) (.slice none 0 0) wr ∧ wr.ownsRow m1 145 2 v k (hdrsW (h.x.hs.take k)) ∧ m1 ≤ wr.heap.size) (fun i _ => h.x.hs.length - (intOf i).toNat)
    case atStart => exact ⟨0, .slice none 0 0, Nat.zero_le _, rfl, Q0.out, World.ownsRow_nil _ _ _ _, by rw [hm1.out]; exact Nat.le_refl _⟩
    case round =>
      obtain ⟨k, v, hk, rfl, hq, hrow, hms⟩ := hrel
      by_cases hlt : k < h.x.hs.length
      · obtain ⟨r, hr⟩ : ∃ r, h.x.hs[k]? = some r := ⟨h.x.hs[k]'hlt, List.getElem?_eq_getElem _⟩
        obtain ⟨va, vc, rfl, _⟩ := row_form hrow
        have hsrc := (HS.out wr hq.bl).2.h
        rcases hsrc with e | ⟨b', off', er, hat⟩
        · rw [e] at hr; simp at hr
        obtain ⟨p0, p1⟩ := hat k r hr
        have sm := HSM.out r (List.mem_of_getElem? hr)
        rw [er]
        have g : (k : Int) < h.x.hs.length := by omega
        have g0 : (0 : Int) ≤ k := by omega
        obtain ⟨L, hL⟩ : ∃ L, Hid (wr.heap.size = L) := ⟨_, rfl⟩
        obtain ⟨W2, hW2⟩ : ∃ W2, W2 = wr.alloc (.cells #[.string r.name, .string r.value] 145) := ⟨_, rfl⟩
        have HW2 : Hid (W2 = wr.alloc (.cells #[.string r.name, .string r.value] 145)) := hW2
        have b2' : Below wr.heap.size wr W2 := by rw [hW2]; exact (Below.refl _ _).alloc (Nat.le_refl _) _
        have Q2 : Hid (AN w h w.heap.size A (.slice va k vc) (.slice b2 h.x.bl.length k2) (.slice none 0 0) W2) := hq.below b2'
        have R2 : Hid (W2.ownsRow m1 145 2 (.slice va k vc) k (hdrsW (h.x.hs.take k)) ∧ m1 ≤ W2.heap.size ∧ L < W2.heap.size ∧ (∀ q, Value.ownBlock (.slice va k vc) = some q → q < L)) := ⟨row_below hrow b2', Nat.le_trans hms b2'.size, by rw [← hL.out, hW2]; simp, fun q hq' => by rw [← hL.out]; exact (World.ownsRow.lt hrow q hq').2⟩
        have L2 : Hid (W2.cell? ⟨L, 0, none⟩ = some (.string r.name) ∧ W2.cell? ⟨L, 1, none⟩ = some (.string r.value)) := by rw [← hL.out, hW2]; exact ⟨by simp, by simp⟩
        have HT : Hid (hdrsW (h.x.hs.take k) ++ [.string r.name, .string r.value] = hdrsW (h.x.hs.take (k + 1))) := by
          show _ = _
          obtain ⟨hk2, rfl⟩ := List.getElem?_eq_some_iff.1 hr
          rw [List.take_succ_eq_append_getElem hk2]
          unfold hdrsW
          rw [List.flatMap_append, List.flatMap_cons, List.flatMap_nil, List.append_nil]
          rfl
        have HKS : Hid (∀ X, Below W2.heap.size W2 X → (fun X : World => X.cell? ⟨A, 2, none⟩ = some (.slice va k vc) ∧ X.cell? ⟨L, 0, none⟩ = some (.string r.name) ∧ X.cell? ⟨L, 1, none⟩ = some (.string r.value)) X) := fun X hb => ⟨(Q2.out.below hb).a.c2, by rw [hb.cell (p := ⟨L, 0, none⟩) R2.out.2.2.1]; exact L2.out.1, by rw [hb.cell (p := ⟨L, 1, none⟩) R2.out.2.2.1]; exact L2.out.2⟩
        have B0 : Hid (Below W2.heap.size W2 W2.drew) := (Below.refl _ _).drew
        have HS0 : Hid ((fun X : World => X.cell? ⟨A, 2, none⟩ = some (.slice va k vc) ∧ X.cell? ⟨L, 0, none⟩ = some (.string r.name) ∧ X.cell? ⟨L, 1, none⟩ = some (.string r.value)) W2.drew) := HKS.out _ B0.out
        have CL : Hid (∀ X, Calls Tryz.prog 134 #[.string r.name, .string r.value] X fun e w' => e = .returned (.agg #[.string r.name, .string r.value]) ∧ Below X.heap.size X w') := fun X => lineOf_anew _ _ X sm.1 sm.2
        clear hq hrow hms hat hr sm hW2 b2' Q0
        go_wp2_with fail
        rw [← HW2.out, hL.out]
        clear HW2 p0 p1
        refine wp_region_last (fun X : World => X.cell? ⟨A, 2, none⟩ = some (.slice va k vc) ∧ X.cell? ⟨L, 0, none⟩ = some (.string r.name) ∧ X.cell? ⟨L, 1, none⟩ = some (.string r.value)) 10 (by kernel_rfl) ?_
        refine butLast_take (i := 0) (v := .pointer (some ⟨A, 2, none⟩)) rfl (by kernel_rfl) (by kernel_rfl) (by kernel_rfl) (by kernel_rfl) (fun _ _ _ h => h) (Or.inl ⟨by kernel_rfl, ?_⟩) HS0.out ?_
        · rintro X ⟨s1, s2, s3⟩
          go_simp
        try simp only [Act.put, List.setIfInBounds_toArray, List.set_cons_zero, List.set_cons_succ]
        refine butLast_take (i := 1) (v := .slice va k vc) rfl (by kernel_rfl) (by kernel_rfl) (by kernel_rfl) (by kernel_rfl) (fun _ _ _ h => h) (Or.inl ⟨by kernel_rfl, ?_⟩) HS0.out ?_
        · rintro X ⟨s1, s2, s3⟩
          go_simp
        try simp only [Act.put, List.setIfInBounds_toArray, List.set_cons_zero, List.set_cons_succ]
        refine butLast_take (i := 2) (v := .pointer (some ⟨L, 0, none⟩)) rfl (by kernel_rfl) (by kernel_rfl) (by kernel_rfl) (by kernel_rfl) (fun _ _ _ h => h) (Or.inl ⟨by kernel_rfl, ?_⟩) HS0.out ?_
        · rintro X ⟨s1, s2, s3⟩
          go_simp
        try simp only [Act.put, List.setIfInBounds_toArray, List.set_cons_zero, List.set_cons_succ]
        refine butLast_take (i := 3) (v := .string r.name) rfl (by kernel_rfl) (by kernel_rfl) (by kernel_rfl) (by kernel_rfl) (fun _ _ _ h => h) (Or.inl ⟨by kernel_rfl, ?_⟩) HS0.out ?_
        · rintro X ⟨s1, s2, s3⟩
          go_simp
        try simp only [Act.put, List.setIfInBounds_toArray, List.set_cons_zero, List.set_cons_succ]
        refine butLast_take (i := 4) (v := .pointer (some ⟨L, 1, none⟩)) rfl (by kernel_rfl) (by kernel_rfl) (by kernel_rfl) (by kernel_rfl) (fun _ _ _ h => h) (Or.inl ⟨by kernel_rfl, ?_⟩) HS0.out ?_
        · rintro X ⟨s1, s2, s3⟩
          go_simp
        try simp only [Act.put, List.setIfInBounds_toArray, List.set_cons_zero, List.set_cons_succ]
        refine butLast_take (i := 5) (v := .string r.value) rfl (by kernel_rfl) (by kernel_rfl) (by kernel_rfl) (by kernel_rfl) (fun _ _ _ h => h) (Or.inl ⟨by kernel_rfl, ?_⟩) HS0.out ?_
        · rintro X ⟨s1, s2, s3⟩
          go_simp
        try simp only [Act.put, List.setIfInBounds_toArray, List.set_cons_zero, List.set_cons_succ]
        refine butLast_one (i := 6) rfl (by kernel_rfl) (fun K hK => ?_)
        go_simp
        refine (CL.out _).mono ?_
        rintro e wa2 ⟨rfl, hba2⟩
        have BA2 : Hid (Below W2.heap.size W2 wa2) := B0.out.trans (hba2.mono B0.out.size)
        clear hba2
        refine hK _ _ (.inr (HKS.out _ BA2.out)) ?_
        clear hK K
        try simp only [Act.put, List.setIfInBounds_toArray, List.set_cons_zero, List.set_cons_succ]
        have BB2 : Hid (Below W2.heap.size W2 (wa2.alloc (.cells #[.string r.name, .string r.value] 145))) := BA2.out.alloc BA2.out.size _
        refine butLast_one (i := 7) rfl (by kernel_rfl) (fun K hK => ?_)
        go_simp
        refine hK _ _ (.inr (HKS.out _ BB2.out)) ?_
        clear hK K
        try simp only [Act.put, List.setIfInBounds_toArray, List.set_cons_zero, List.set_cons_succ]
        obtain ⟨i0, hi0, hz0, hz1, hz2⟩ := info_parts cHeadI
        obtain ⟨X3, hX3⟩ : ∃ X3, X3 = wa2.alloc (.cells #[.string r.name, .string r.value] 145) := ⟨_, rfl⟩
        have N3 : Hid (1 = 0 ∨ ∃ ad, some (⟨wa2.heap.size, 0, none⟩ : Addr) = some ad ∧ ∀ j u, ([Value.string r.name, .string r.value])[j]? = some u → X3.cell? (ad.add j) = some u) := by
          refine .inr ⟨_, rfl, fun j u hj => ?_⟩
          rw [cadd, hX3]
          match j, hj with
          | 0, hj => simp at hj; subst hj; simp
          | 1, hj => simp at hj; subst hj; simp
        have HX3 : Hid (X3 = wa2.alloc (.cells #[.string r.name, .string r.value] 145)) := hX3
        rw [← HX3.out] at BB2 ⊢
        clear hX3 HX3
        have RR3 : Hid (X3.ownsRow m1 145 2 (.slice va k vc) k (hdrsW (h.x.hs.take k)) ∧ m1 ≤ X3.heap.size) := ⟨row_below R2.out.1 BB2.out, Nat.le_trans R2.out.2.1 BB2.out.size⟩
        refine butLast_one (i := 8) rfl (by kernel_rfl) (fun K hK => ?_)
        refine step_append_in X3 (by rfl) _ _ 51 145 (by rfl) i0 _ 2 32 Tryz.underlying51 hi0 hz0 hz1 hz2 rfl (by omega) m1 _ k (hdrsW (h.x.hs.take k)) (by rfl) RR3.out.1 (some ⟨wa2.heap.size, 0, none⟩) 1 1 [.string r.name, .string r.value] (by rfl) rfl N3.out (fun u hu => by simp at hu; rcases hu with rfl | rfl <;> rfl) (by unfold maxLen; omega) (by omega) RR3.out.2 ?_
        intro v4 w4 h41 h42 h43
        have lX : L < X3.heap.size := Nat.lt_of_lt_of_le R2.out.2.2.1 BB2.out.size
        have neL : Value.ownBlock (.slice va k vc) ≠ some L := fun e => by have := R2.out.2.2.2 L e; omega
        have Q3 := Q2.out.below BB2.out
        have S3 := HKS.out _ BB2.out
        have aX : A < X3.heap.size := Nat.lt_of_lt_of_le HAm.out RR3.out.2
        have cA : ∀ o, w4.cell? ⟨A, o, none⟩ = X3.cell? ⟨A, o, none⟩ := fun o => h42.cell (p := ⟨A, o, none⟩) HAm.out
        have Q4 : Hid (AN w h w.heap.size A (.slice va k vc) (.slice b2 h.x.bl.length k2) (.slice none 0 0) w4) := an_grow Q3 h42 HAm.out HRm.out
        have S4' : Hid ((fun X : World => X.cell? ⟨A, 2, none⟩ = some (.slice va k vc) ∧ X.cell? ⟨L, 0, none⟩ = some (.string r.name) ∧ X.cell? ⟨L, 1, none⟩ = some (.string r.value)) w4) := ⟨by rw [cA]; exact S3.1, by rw [(h43 L 0 lX neL).1]; exact S3.2.1, by rw [(h43 L 1 lX neL).1]; exact S3.2.2⟩
        obtain ⟨va4, vc4, rfl, _⟩ := row_form h41
        have R4 : Hid (w4.ownsRow m1 145 2 (.slice va4 (k + 1) vc4) (k + 1) (hdrsW (h.x.hs.take (k + 1))) ∧ m1 ≤ w4.heap.size) := by
          rw [HT.out] at h41
          exact ⟨h41, Nat.le_trans RR3.out.2 h42.size⟩
        clear h41 h42 h43 lX neL Q3 S3 aX cA
        refine hK _ _ (.inr S4'.out) ?_
        clear hK K
        try simp only [Act.put, List.setIfInBounds_toArray, List.set_cons_zero, List.set_cons_succ]
        refine butLast_one (i := 9) rfl (by kernel_rfl) (fun K hK => ?_)
        go_simp
        refine hK _ _ (.inr S4'.out) ?_
        clear hK K
        try simp only [Act.put, List.setIfInBounds_toArray, List.set_cons_zero, List.set_cons_succ]
        have y2 := Q4.out.a.c2
        have yf := Q4.out.a.fr 2
        have Q5 : Hid (AN w h w.heap.size A (.slice va4 (k + 1) vc4) (.slice b2 h.x.bl.length k2) (.slice none 0 0) (w4.setCell ⟨A, 2, none⟩ (.slice va4 (k + 1) vc4)) ∧ (w4.setCell ⟨A, 2, none⟩ (.slice va4 (k + 1) vc4)).ownsRow m1 145 2 (.slice va4 (k + 1) vc4) (k + 1) (hdrsW (h.x.hs.take (k + 1))) ∧ m1 ≤ (w4.setCell ⟨A, 2, none⟩ (.slice va4 (k + 1) vc4)).heap.size) := ⟨Q4.out.set2 _, row_off R4.out.1 _ HAm.out, by simpa using R4.out.2⟩
        refine butLast_one (i := 10) rfl (by kernel_rfl) (fun K hK => ?_)
        go_simp
        refine hK _ _ (.inl rfl) ?_
        clear hK K
        refine butLast_end (by kernel_rfl) ?_
        clear y2 yf Q4 R4
        go_wp2_with fail
        go_roundw
        case rel => exact ⟨k + 1, _, by omega, by go_num, Q5.out.1, Q5.out.2.1, Q5.out.2.2⟩
        case measure => simp [intOf]; omega
      · have hkn : k = h.x.hs.length := by omega
        subst hkn
        obtain ⟨va, vc, rfl, _⟩ := row_form hrow
        have HH : Hid (AN w h w.heap.size A (.slice va h.x.hs.length vc) (.slice b2 h.x.bl.length k2) (.slice none 0 0) wr ∧ RowH wr m1 (.slice va h.x.hs.length vc) h.x.hs) := by
          refine ⟨hq, ?_⟩
          have := hrow
          rw [List.take_of_length_le (by omega)] at this
          exact this
        obtain ⟨m2, hm2⟩ : ∃ m, Hid (wr.heap.size = m) := ⟨_, rfl⟩
        have HM2 : Hid (A < m2 ∧ m1 ≤ m2 ∧ (∀ q, Value.ownBlock (.slice b2 h.x.bl.length k2) = some q → q < m2) ∧ (∀ q, Value.ownBlock (.slice va h.x.hs.length vc) = some q → q < m2)) := ⟨by rw [← hm2.out]; exact hq.a.lt, by rw [← hm2.out]; exact hms, fun q hq' => by rw [← hm2.out]; exact (World.ownsRow.lt hq.b q hq').2, fun q hq' => by rw [← hm2.out]; exact (World.ownsRow.lt hrow q hq').2⟩
        have p11 := ((HS.out wr hq.bl).cells).2.2.2.2.2.2.2.2.2.2.2.1
        clear hrow hms hq Q0
        go_wp2_with fail
        clear p11
        obtain ⟨wo, hwo⟩ : ∃ wo : World, wo = wr := ⟨_, rfl⟩
        subst hwo
        go_loopw [56] (fun i wr => ∃ (j : Nat) (v : Value), j ≤ h.x.ts.length ∧ i = .int .i64 j ∧ AN w h w.heap.size A (.slice va h.x.hs.length vc) (.slice b2 h.x.bl.length k2) v wr ∧ wr.ownsRow m2 9 1 v j (cTexts (h.x.ts.take j)) ∧ m2 ≤ wr.heap.size ∧ RowH wr m1 (.slice va h.x.hs.length vc) h.x.hs) (fun i _ => h.x.ts.length - (intOf i).toNat)
        case atStart => exact ⟨0, .slice none 0 0, Nat.zero_le _, rfl, HH.out.1, World.ownsRow_nil _ _ _ _, by rw [hm2.out]; exact Nat.le_refl _, HH.out.2⟩
        case round =>
          obtain ⟨j, v, hj, rfl, hq, hrow, hms, hrh⟩ := hrel
          by_cases hlj : j < h.x.ts.length
          · obtain ⟨r, hr⟩ : ∃ r, h.x.ts[j]? = some r := ⟨h.x.ts[j]'hlj, List.getElem?_eq_getElem _⟩
            obtain ⟨ta2, tc2, rfl, _⟩ := row_form hrow
            have hsrc := (HS.out wr hq.bl).2.k
            rcases hsrc with e | ⟨b', off', er, hat⟩
            · rw [e] at hr; simp at hr
            have p0 := hat j r hr
            have sm := HTS.out r (List.mem_of_getElem? hr)
            rw [er]
            have g : (j : Int) < h.x.ts.length := by omega
            have g0 : (0 : Int) ≤ j := by omega
            have Q2 : Hid (AN w h w.heap.size A (.slice va h.x.hs.length vc) (.slice b2 h.x.bl.length k2) (.slice ta2 j tc2) wr) := hq
            have R2 : Hid (wr.ownsRow m2 9 1 (.slice ta2 j tc2) j (cTexts (h.x.ts.take j)) ∧ m2 ≤ wr.heap.size ∧ RowH wr m1 (.slice va h.x.hs.length vc) h.x.hs) := ⟨hrow, hms, hrh⟩
            have HT : Hid (cTexts (h.x.ts.take j) ++ [.string r] = cTexts (h.x.ts.take (j + 1))) := by
              show _ = _
              obtain ⟨hk2, rfl⟩ := List.getElem?_eq_some_iff.1 hr
              rw [List.take_succ_eq_append_getElem hk2]
              unfold cTexts
              rw [List.map_append]
              rfl
            have HKS : Hid (∀ X, Below wr.heap.size wr X → (fun X : World => X.cell? ⟨A, 11, none⟩ = some (.slice ta2 j tc2)) X) := fun X hb => (Q2.out.below hb).a.c11
            have B0 : Hid (Below wr.heap.size wr wr.drew) := (Below.refl _ _).drew
            have HS0 : Hid ((fun X : World => X.cell? ⟨A, 11, none⟩ = some (.slice ta2 j tc2)) wr.drew) := HKS.out _ B0.out
            have CL : Hid (∀ X, Calls Tryz.prog 124 #[.string r] X fun e w' => e = .returned (.string r) ∧ Below X.heap.size X w') := fun X => clone_text _ X sm
            clear hq hrow hms hat hr sm HH hrh
            go_wp2_with fail
            clear p0
            refine wp_region_last (fun X : World => X.cell? ⟨A, 11, none⟩ = some (.slice ta2 j tc2)) 7 (by kernel_rfl) ?_
            refine butLast_take (i := 0) (v := .pointer (some ⟨A, 11, none⟩)) rfl (by kernel_rfl) (by kernel_rfl) (by kernel_rfl) (by kernel_rfl) (fun _ _ _ h => h) (Or.inl ⟨by kernel_rfl, ?_⟩) HS0.out ?_
            · rintro X s1
              go_simp
            try simp only [Act.put, List.setIfInBounds_toArray, List.set_cons_zero, List.set_cons_succ]
            refine butLast_take (i := 1) (v := .slice ta2 j tc2) rfl (by kernel_rfl) (by kernel_rfl) (by kernel_rfl) (by kernel_rfl) (fun _ _ _ h => h) (Or.inl ⟨by kernel_rfl, ?_⟩) HS0.out ?_
            · rintro X s1
              go_simp
            try simp only [Act.put, List.setIfInBounds_toArray, List.set_cons_zero, List.set_cons_succ]
            refine butLast_take (i := 2) (v := .string r) rfl (by kernel_rfl) (by kernel_rfl) (by kernel_rfl) (by kernel_rfl) (fun _ _ _ h => h) (Or.inl ⟨by kernel_rfl, ?_⟩) HS0.out ?_
            · rintro X s1
              go_simp
            try simp only [Act.put, List.setIfInBounds_toArray, List.set_cons_zero, List.set_cons_succ]
            refine butLast_one (i := 3) rfl (by kernel_rfl) (fun K hK => ?_)
            go_simp
            refine (CL.out _).mono ?_
            rintro e wa2 ⟨rfl, hba2⟩
            have BA2 : Hid (Below wr.heap.size wr wa2) := B0.out.trans (hba2.mono B0.out.size)
            clear hba2
            refine hK _ _ (.inr (HKS.out _ BA2.out)) ?_
            clear hK K
            try simp only [Act.put, List.setIfInBounds_toArray, List.set_cons_zero, List.set_cons_succ]
            have BB2 : Hid (Below wr.heap.size wr (wa2.alloc (.cells #[.string r] 9))) := BA2.out.alloc BA2.out.size _
            refine butLast_one (i := 4) rfl (by kernel_rfl) (fun K hK => ?_)
            go_simp
            refine hK _ _ (.inr (HKS.out _ BB2.out)) ?_
            clear hK K
            try simp only [Act.put, List.setIfInBounds_toArray, List.set_cons_zero, List.set_cons_succ]
            obtain ⟨i0, hi0, hz0, hz1, hz2⟩ := info_parts cTextI
            obtain ⟨X3, hX3⟩ : ∃ X3, X3 = wa2.alloc (.cells #[.string r] 9) := ⟨_, rfl⟩
            have N3 : Hid (1 = 0 ∨ ∃ ad, some (⟨wa2.heap.size, 0, none⟩ : Addr) = some ad ∧ ∀ j u, ([Value.string r])[j]? = some u → X3.cell? (ad.add j) = some u) := by
              refine .inr ⟨_, rfl, fun j u hj => ?_⟩
              rw [cadd, hX3]
              match j, hj with
              | 0, hj => simp at hj; subst hj; simp
            have HX3 : Hid (X3 = wa2.alloc (.cells #[.string r] 9)) := hX3
            rw [← HX3.out] at BB2 ⊢
            clear hX3 HX3
            have RR3 : Hid (X3.ownsRow m2 9 1 (.slice ta2 j tc2) j (cTexts (h.x.ts.take j)) ∧ m2 ≤ X3.heap.size ∧ RowH X3 m1 (.slice va h.x.hs.length vc) h.x.hs) := ⟨row_below R2.out.1 BB2.out, Nat.le_trans R2.out.2.1 BB2.out.size, row_below R2.out.2.2 BB2.out⟩
            refine butLast_one (i := 5) rfl (by kernel_rfl) (fun K hK => ?_)
            refine step_append_in X3 (by rfl) _ _ 44 9 (by rfl) i0 _ 1 16 Tryz.underlying44 hi0 hz0 hz1 hz2 rfl (by omega) m2 _ j (cTexts (h.x.ts.take j)) (by rfl) RR3.out.1 (some ⟨wa2.heap.size, 0, none⟩) 1 1 [.string r] (by rfl) rfl N3.out (fun u hu => by simp at hu; subst hu; rfl) (by unfold maxLen; omega) (by omega) RR3.out.2.1 ?_
            intro v4 w4 h41 h42 h43
            have Q3 := Q2.out.below BB2.out
            have S3 := HKS.out _ BB2.out
            have Q4 : Hid (AN w h w.heap.size A (.slice va h.x.hs.length vc) (.slice b2 h.x.bl.length k2) (.slice ta2 j tc2) w4) := an_grow Q3 h42 HM2.out.1 HM2.out.2.2.1
            have S4' : Hid ((fun X : World => X.cell? ⟨A, 11, none⟩ = some (.slice ta2 j tc2)) w4) := Q4.out.a.c11
            obtain ⟨va4, vc4, rfl, _⟩ := row_form h41
            have R4 : Hid (w4.ownsRow m2 9 1 (.slice va4 (j + 1) vc4) (j + 1) (cTexts (h.x.ts.take (j + 1))) ∧ m2 ≤ w4.heap.size ∧ RowH w4 m1 (.slice va h.x.hs.length vc) h.x.hs) := by
              rw [HT.out] at h41
              exact ⟨h41, Nat.le_trans RR3.out.2.1 h42.size, row_keep RR3.out.2.2 h42 (fun q hq => HM2.out.2.2.2 q hq)⟩
            clear h41 h42 h43 Q3 S3
            refine hK _ _ (.inr S4'.out) ?_
            clear hK K
            try simp only [Act.put, List.setIfInBounds_toArray, List.set_cons_zero, List.set_cons_succ]
            refine butLast_one (i := 6) rfl (by kernel_rfl) (fun K hK => ?_)
            go_simp
            refine hK _ _ (.inr S4'.out) ?_
            clear hK K
            try simp only [Act.put, List.setIfInBounds_toArray, List.set_cons_zero, List.set_cons_succ]
            have y2 := Q4.out.a.c11
            have yf := Q4.out.a.fr 11
            have Q5 : Hid (AN w h w.heap.size A (.slice va h.x.hs.length vc) (.slice b2 h.x.bl.length k2) (.slice va4 (j + 1) vc4) (w4.setCell ⟨A, 11, none⟩ (.slice va4 (j + 1) vc4)) ∧ (w4.setCell ⟨A, 11, none⟩ (.slice va4 (j + 1) vc4)).ownsRow m2 9 1 (.slice va4 (j + 1) vc4) (j + 1) (cTexts (h.x.ts.take (j + 1))) ∧ m2 ≤ (w4.setCell ⟨A, 11, none⟩ (.slice va4 (j + 1) vc4)).heap.size ∧ RowH (w4.setCell ⟨A, 11, none⟩ (.slice va4 (j + 1) vc4)) m1 (.slice va h.x.hs.length vc) h.x.hs) := ⟨Q4.out.set11 _, row_off R4.out.1 _ HM2.out.1, by simpa using R4.out.2.1, row_off R4.out.2.2 _ HAm.out⟩
            refine butLast_one (i := 7) rfl (by kernel_rfl) (fun K hK => ?_)
            go_simp
            refine hK _ _ (.inl rfl) ?_
            clear hK K
            refine butLast_end (by kernel_rfl) ?_
            clear y2 yf Q4 R4
            go_wp2_with fail
            go_roundw
            case rel => exact ⟨j + 1, .slice va4 (j + 1) vc4, by omega, by go_num, Q5.out.1, Q5.out.2.1, by simpa using Q5.out.2.2.1, Q5.out.2.2.2⟩
            case measure => simp [intOf]; omega
          · have hjn : j = h.x.ts.length := by omega
            subst hjn
            obtain ⟨ta2, tc2, rfl, _⟩ := row_form hrow
            have HE : Hid (EntRow wr (w.heap.size + 1) h.x ⟨va, vc, b2, k2, ta2, tc2⟩) := by
              have hrt : RowT wr m2 (.slice ta2 h.x.ts.length tc2) h.x.ts := by
                have := hrow
                rw [List.take_of_length_le (by omega)] at this
                exact this
              have hAm := HAm.out
              have hRA := hq.ra
              refine ⟨row_lower hrh (by omega), hq.b, row_lower hrt (by have := HM2.out.2.1; omega), ?_, ?_, ?_⟩
              · exact ne_blk (m := m1) (fun q hq' => (World.ownsRow.lt hrh q hq').1) (fun q hq' => HRm.out q hq')
              · exact ne_blk2 (m := m2) (fun q hq' => HM2.out.2.2.2 q hq') (fun q hq' => (World.ownsRow.lt hrt q hq').1)
              · exact ne_blk2 (m := m2) (fun q hq' => HM2.out.2.2.1 q hq') (fun q hq' => (World.ownsRow.lt hrt q hq').1)
            have HQ : Hid (AN w h w.heap.size A (.slice va h.x.hs.length vc) (.slice b2 h.x.bl.length k2) (.slice ta2 h.x.ts.length tc2) wr) := hq
            have FIN : Hid (∀ u0 u1 u2 u3 u4 u5 u6 u7 u8 u9 u10 u11 u12, EntRow (((((((((((((wr.setCell ⟨w.heap.size, 0, none⟩ u0).setCell ⟨w.heap.size, 1, none⟩ u1).setCell ⟨w.heap.size, 2, none⟩ u2).setCell ⟨w.heap.size, 3, none⟩ u3).setCell ⟨w.heap.size, 4, none⟩ u4).setCell ⟨w.heap.size, 5, none⟩ u5).setCell ⟨w.heap.size, 6, none⟩ u6).setCell ⟨w.heap.size, 7, none⟩ u7).setCell ⟨w.heap.size, 8, none⟩ u8).setCell ⟨w.heap.size, 9, none⟩ u9).setCell ⟨w.heap.size, 10, none⟩ u10).setCell ⟨w.heap.size, 11, none⟩ u11).setCell ⟨w.heap.size, 12, none⟩ u12) w.heap.size h.x ⟨va, vc, b2, k2, ta2, tc2⟩ ∧ Below w.heap.size w (((((((((((((wr.setCell ⟨w.heap.size, 0, none⟩ u0).setCell ⟨w.heap.size, 1, none⟩ u1).setCell ⟨w.heap.size, 2, none⟩ u2).setCell ⟨w.heap.size, 3, none⟩ u3).setCell ⟨w.heap.size, 4, none⟩ u4).setCell ⟨w.heap.size, 5, none⟩ u5).setCell ⟨w.heap.size, 6, none⟩ u6).setCell ⟨w.heap.size, 7, none⟩ u7).setCell ⟨w.heap.size, 8, none⟩ u8).setCell ⟨w.heap.size, 9, none⟩ u9).setCell ⟨w.heap.size, 10, none⟩ u10).setCell ⟨w.heap.size, 11, none⟩ u11).setCell ⟨w.heap.size, 12, none⟩ u12)) := fun u0 u1 u2 u3 u4 u5 u6 u7 u8 u9 u10 u11 u12 => ⟨(((((((((((((HE.out.off1 u0 (by omega)).off1 u1 (by omega)).off1 u2 (by omega)).off1 u3 (by omega)).off1 u4 (by omega)).off1 u5 (by omega)).off1 u6 (by omega)).off1 u7 (by omega)).off1 u8 (by omega)).off1 u9 (by omega)).off1 u10 (by omega)).off1 u11 (by omega)).off1 u12 (by omega)).lower (by omega), (((((((((((((HQ.out.bl.setCell (Nat.le_refl _) u0).setCell (Nat.le_refl _) u1).setCell (Nat.le_refl _) u2).setCell (Nat.le_refl _) u3).setCell (Nat.le_refl _) u4).setCell (Nat.le_refl _) u5).setCell (Nat.le_refl _) u6).setCell (Nat.le_refl _) u7).setCell (Nat.le_refl _) u8).setCell (Nat.le_refl _) u9).setCell (Nat.le_refl _) u10).setCell (Nat.le_refl _) u11).setCell (Nat.le_refl _) u12)⟩
            clear hq hrow hms hrh HE HH
            have z0 := HQ.out.r.c0
            have zf0 := HQ.out.r.fr 0
            have y0 := HQ.out.a.c0
            have z1 := HQ.out.r.c1
            have zf1 := HQ.out.r.fr 1
            have y1 := HQ.out.a.c1
            have z2 := HQ.out.r.c2
            have zf2 := HQ.out.r.fr 2
            have y2 := HQ.out.a.c2
            have z3 := HQ.out.r.c3
            have zf3 := HQ.out.r.fr 3
            have y3 := HQ.out.a.c3
            have z4 := HQ.out.r.c4
            have zf4 := HQ.out.r.fr 4
            have y4 := HQ.out.a.c4
            have z5 := HQ.out.r.c5
            have zf5 := HQ.out.r.fr 5
            have y5 := HQ.out.a.c5
            have z6 := HQ.out.r.c6
            have zf6 := HQ.out.r.fr 6
            have y6 := HQ.out.a.c6
            have z7 := HQ.out.r.c7
            have zf7 := HQ.out.r.fr 7
            have y7 := HQ.out.a.c7
            have z8 := HQ.out.r.c8
            have zf8 := HQ.out.r.fr 8
            have y8 := HQ.out.a.c8
            have z9 := HQ.out.r.c9
            have zf9 := HQ.out.r.fr 9
            have y9 := HQ.out.a.c9
            have z10 := HQ.out.r.c10
            have zf10 := HQ.out.r.fr 10
            have y10 := HQ.out.a.c10
            have z11 := HQ.out.r.c11
            have zf11 := HQ.out.r.fr 11
            have y11 := HQ.out.a.c11
            have z12 := HQ.out.r.c12
            have zf12 := HQ.out.r.fr 12
            have y12 := HQ.out.a.c12
            clear HQ
            go_wp2_with fail
            exact bodyPost_ret (v := .agg #[.string h.x.key, .int .i64 h.x.st, .slice va h.x.hs.length vc, .slice b2 h.x.bl.length k2, .int .i64 h.x.t, .int .i64 h.x.g, .int .i64 h.x.l, .int .i64 h.x.s, .int .i64 h.x.e, .bool h.x.b1, .bool h.x.b2, .slice ta2 h.x.ts.length tc2, .int .i64 h.x.pins]) (by simp [results, Tryz.results100, go_sem, z0, z1, z2, z3, z4, z5, z6, z7, z8, z9, z10, z11, z12]) rfl ⟨⟨⟨va, vc, b2, k2, ta2, tc2⟩, rfl, (FIN.out _ _ _ _ _ _ _ _ _ _ _ _ _).1⟩, (FIN.out _ _ _ _ _ _ _ _ _ _ _ _ _).2⟩
end Go.Proofs.YtaphofdcoddopaaGreatDoor
/-
  PeekEntry, by the specification and by the program.
-/
namespace Go.Proofs.YtaphofdcoddopaaGreatDoor
open Go.ChangeShapes Go.WideShapes Go.ChangeAt Go.RowKit Go.Sort
/-- An answer of PeekEntry: code and entry. -/
def PeekOk (c : Int) (x : Ent) (base : Nat) (e : Ending) (w' : World) : Prop := ∃ r, e = .returned (.agg #[.int .i64 c, .string x.key, .int .i64 x.st, .slice r.ha x.hs.length r.hc, .slice r.ba x.bl.length r.bc, .int .i64 x.t, .int .i64 x.g, .int .i64 x.l, .int .i64 x.s, .int .i64 x.e, .bool x.b1, .bool x.b2, .slice r.ta x.ts.length r.tc, .int .i64 x.pins]) ∧ EntRow w' base x r
theorem peekR_bad {bu gu : Int} {tl kl : List Ent} {key : ByteArray} (h : storeC bu gu tl kl ≠ 0) : peekR bu gu tl kl key = (storeC bu gu tl kl, zeroEnt) := by unfold peekR; rw [if_pos h]
theorem peekR_none {bu gu : Int} {tl kl : List Ent} {key : ByteArray} (h : storeC bu gu tl kl = 0) (hf : (tl ++ kl).find? (isKey key) = none) : peekR bu gu tl kl key = (4, zeroEnt) := by unfold peekR; rw [if_neg (by simpa using h), hf]
theorem peekR_some {bu gu : Int} {tl kl : List Ent} {key : ByteArray} {x : Ent} (h : storeC bu gu tl kl = 0) (hf : (tl ++ kl).find? (isKey key) = some x) : peekR bu gu tl kl key = (0, x) := by unfold peekR; rw [if_neg (by simpa using h), hf]
end Go.Proofs.YtaphofdcoddopaaGreatDoor
/-
  The law of StoreFault.
-/
namespace Go.Proofs.YtaphofdcoddopaaGreatDoor
open Go.ChangeShapes Go.WideShapes Go.ChangeAt Go.RowKit Go.Sort
theorem ok_of {w : World} {ta ka : Option Addr} {tl kl : List (Ent × EntR)} (h : StoArg w ta ka tl kl) (hf : StoFit tl kl) : ∀ x ∈ (tl ++ kl).map Prod.fst, EntOk x := by
  intro x hx
  obtain ⟨q, hq, rfl⟩ := List.mem_map.1 hx
  rcases List.mem_append.1 hq with hq | hq
  · have s := h.ts q hq
    exact ⟨s.key, (hf.tf q hq).h, s.bl, s.tl⟩
  · have s := h.ks q hq
    exact ⟨s.key, (hf.kf q hq).h, s.bl, s.tl⟩
theorem ok_map {tl kl a b : List (Ent × EntR)} (e1 : a.map Prod.fst = tl.map Prod.fst) (e2 : b.map Prod.fst = kl.map Prod.fst) (h : ∀ x ∈ (tl ++ kl).map Prod.fst, EntOk x) : ∀ q ∈ a ++ b, EntOk q.1 := fun q hq => h q.1 (by rw [List.map_append, ← e1, ← e2, ← List.map_append]; exact List.mem_map_of_mem hq)
theorem specSto_new (w : World) (bu gu : Int) (tl kl : List (Ent × EntR)) (G1 G2 : Nat) (hok : ∀ x ∈ (tl ++ kl).map Prod.fst, EntOk x) (hf : StoFit tl kl) (h : StoNew w G1 G2 tl kl) :
    Calls Tryz.prog 68 #[.agg #[.int .i64 bu, .int .i64 gu, .slice (some ⟨G1, 0, none⟩) tl.length tl.length, .slice (some ⟨G2, 0, none⟩) kl.length kl.length]] w fun r w' => r = .returned (.int .i64 (storeC bu gu (tl.map Prod.fst) (kl.map Prod.fst))) ∧ Below w.heap.size w w' := by
  obtain ⟨a, b, e1, e2, m⟩ := h
  have l1 := len_map e1
  have l2 := len_map e2
  rw [← l1, ← l2, ← e1, ← e2]
  exact specSto_any w bu gu _ _ _ _ a b (by rw [l1]; exact hf.tn) (by rw [l2]; exact hf.kn) (ok_map e1 e2 hok) m.t.in m.k.in
theorem implSto_new (w : World) (bu gu : Int) (tl kl : List (Ent × EntR)) (G1 G2 : Nat) (hset : SetIs w) (hok : ∀ x ∈ (tl ++ kl).map Prod.fst, EntOk x) (hf : StoFit tl kl) (h : StoNew w G1 G2 tl kl) :
    Calls Tryz.prog 76 #[.agg #[.int .i64 bu, .int .i64 gu, .slice (some ⟨G1, 0, none⟩) tl.length tl.length, .slice (some ⟨G2, 0, none⟩) kl.length kl.length]] w fun r w' => r = .returned (.int .i64 (storeC bu gu (tl.map Prod.fst) (kl.map Prod.fst))) ∧ Below w.heap.size w w' := by
  obtain ⟨a, b, e1, e2, m⟩ := h
  have l1 := len_map e1
  have l2 := len_map e2
  rw [← l1, ← l2, ← e1, ← e2]
  exact implSto_any w bu gu _ _ _ _ a b hset (by rw [l1]; exact hf.tn) (by rw [l2]; exact hf.kn) (ok_map e1 e2 hok) m.t.in m.k.in
end Go.Proofs.YtaphofdcoddopaaGreatDoor
/-
  PeekEntry of a store that a law handed over.
-/
namespace Go.Proofs.YtaphofdcoddopaaGreatDoor
open Go.ChangeShapes Go.WideShapes Go.ChangeAt Go.RowKit Go.Sort
theorem szE_tags {left : Int} {key : ByteArray} {hs : List Hdr} {bs : List UInt8} {ts : List ByteArray} (hl : left ≤ 1048576) (h : ¬ szE left key hs bs ts < 0) : ∀ t ∈ ts, t.size ≤ 1048576 := by
  unfold szE at h
  split at h
  · exact absurd (by decide) h
  split at h
  · exact absurd (by decide) h
  split at h
  · exact absurd (by decide) h
  split at h
  · exact absurd (by decide) h
  rename_i c1 c2 c3 c4
  have r2 := szHL_le c2
  exact (szTL_room (l := ts) (left := szHL (left - (key.size : Int)) hs - (bs.length : Int)) (by omega) c4).2
theorem szEs_tags : ∀ (l : List (Ent × EntR)) (c : Int), c ≤ 1048576 → ¬ szEs c l < 0 → ∀ q ∈ l, ∀ t ∈ q.1.ts, t.size ≤ 1048576
  | [], _, _, _ => by simp
  | q :: l, c, hc, h => by
    unfold szEs at h
    by_cases d : szE c q.1.key q.1.hs q.1.bl q.1.ts < 0
    · rw [if_pos d] at h; exact absurd (by decide) h
    · rw [if_neg d] at h
      intro p hp
      rcases List.mem_cons.1 hp with rfl | hp
      · exact szE_tags hc d
      · exact szEs_tags l _ (by have := (szE_room hc d).2.2.2.2; omega) h p hp
theorem szEL_tags {l : List (Ent × EntR)} {left : Int} (hc : left ≤ 1048576) (h : ¬ szEL left l < 0) : ∀ q ∈ l, ∀ t ∈ q.1.ts, t.size ≤ 1048576 := by
  unfold szEL at h
  by_cases d : left - (l.length : Int) < 0
  · rw [if_pos d] at h; omega
  · rw [if_neg d] at h
    exact szEs_tags l _ (by omega) h
theorem szSt_tags {left : Int} {tl kl : List (Ent × EntR)} (hl : left ≤ 1048576) (h : ¬ szSt left tl kl < 0) : ∀ x ∈ (tl ++ kl).map Prod.fst, ∀ t ∈ x.ts, t.size ≤ 1048576 := by
  unfold szSt at h
  by_cases c1 : szEL left tl < 0
  · rw [if_pos c1] at h; omega
  rw [if_neg c1] at h
  by_cases c2 : szEL (szEL left tl) kl < 0
  · rw [if_pos c2] at h; omega
  have r1 := szEL_room hl c1
  have t1 := szEL_tags hl c1
  have t2 := szEL_tags (Int.le_trans r1.1 hl) c2
  intro x hx
  obtain ⟨q, hq, rfl⟩ := List.mem_map.1 hx
  rcases List.mem_append.1 hq with hq | hq
  · exact t1 q hq
  · exact t2 q hq
theorem fit_all {tl kl a b : List (Ent × EntR)} (e1 : a.map Prod.fst = tl.map Prod.fst) (e2 : b.map Prod.fst = kl.map Prod.fst) (hf : StoFit tl kl) : ∀ q ∈ a ++ b, EntFit q.1 := fun q hq => by
  rcases List.mem_append.1 hq with hq | hq
  · exact fit_map e1 hf.tf q hq
  · exact fit_map e2 hf.kf q hq
theorem peek_fit {bu gu : Int} {tl kl : List (Ent × EntR)} {key : ByteArray} (hf : StoFit tl kl) : EntFit (peekR bu gu (tl.map Prod.fst) (kl.map Prod.fst) key).2 := by
  have z : EntFit zeroEnt := ⟨by decide, by decide, by decide⟩
  unfold peekR
  split
  · exact z
  · split
    · exact z
    · rename_i x hx
      have hm := List.mem_of_find?_eq_some hx
      rw [← List.map_append] at hm
      obtain ⟨q, hq, rfl⟩ := List.mem_map.1 hm
      exact fit_all rfl rfl hf q hq
end Go.Proofs.YtaphofdcoddopaaGreatDoor
/-
  All that was there, but for one block, is as it was.
-/
namespace Go.Proofs.YtaphofdcoddopaaGreatDoor
open Go.ChangeShapes Go.WideShapes Go.ChangeAt Go.RowKit
/-- All that was there, but for block B, is as it was. -/
structure Apart (B : Nat) (w w' : World) : Prop where
  size : w.heap.size ≤ w'.heap.size
  cell : ∀ b o, b < w.heap.size → b ≠ B → w'.cell? ⟨b, o, none⟩ = w.cell? ⟨b, o, none⟩
  frozen : ∀ b o, b < w.heap.size → b ≠ B → w'.frozen? ⟨b, o, none⟩ = w.frozen? ⟨b, o, none⟩
theorem Apart.refl (B : Nat) (w : World) : Apart B w w := ⟨Nat.le_refl _, fun _ _ _ _ => rfl, fun _ _ _ _ => rfl⟩
theorem Apart.trans {B : Nat} {w w1 w2 : World} (h : Apart B w w1) (k : Apart B w1 w2) : Apart B w w2 :=
  ⟨Nat.le_trans h.size k.size, fun b o hb hn => by rw [k.cell b o (Nat.lt_of_lt_of_le hb h.size) hn, h.cell b o hb hn], fun b o hb hn => by rw [k.frozen b o (Nat.lt_of_lt_of_le hb h.size) hn, h.frozen b o hb hn]⟩
theorem Apart.below {B : Nat} {w w' : World} (h : Below w.heap.size w w') : Apart B w w' :=
  ⟨h.size, fun b o hb _ => h.cell (p := ⟨b, o, none⟩) hb, fun b o hb _ => h.frozen (p := ⟨b, o, none⟩) hb⟩
theorem Apart.alloc (B : Nat) (w : World) (o : Obj) : Apart B w (w.alloc o) := .below ((Below.refl _ _).alloc (Nat.le_refl _) _)
theorem Apart.set (B o : Nat) (w : World) (v : Value) : Apart B w (w.setCell ⟨B, o, none⟩ v) := by
  refine ⟨by simp, fun b o' _ hn => ?_, fun b o' _ hn => ?_⟩
  · rw [World.cell?_setCell_other _ _ _ _ (by intro h; have := congrArg Addr.block h; simp at this; omega)]
  · rw [World.frozen?_setCell]
end Go.Proofs.YtaphofdcoddopaaGreatDoor
/-
  markText: a text of its own for each number.
-/
namespace Go.Proofs.YtaphofdcoddopaaGreatDoor
open Go.ChangeShapes Go.WideShapes Go.ChangeAt Go.RowKit
def mkD (k : Nat) (o : ByteArray) : ByteArray := if _h : k = 0 then o else mkD (k / 10) ((⟨#[UInt8.ofNat (48 + k % 10)]⟩ : ByteArray) ++ o)
termination_by k
decreasing_by omega
theorem mkD_zero (o : ByteArray) : mkD 0 o = o := by rw [mkD]; simp
theorem mkD_more {k : Nat} (h : k ≠ 0) (o : ByteArray) : mkD k o = mkD (k / 10) ((⟨#[UInt8.ofNat (48 + k % 10)]⟩ : ByteArray) ++ o) := by rw [mkD, dif_neg h]
def mkT (k : Nat) : ByteArray := (⟨#[109]⟩ : ByteArray) ++ mkD k ⟨#[]⟩
theorem one_byteM (c : Int) (x : UInt8) (hx : (x.toNat : Int) = c) (W : World) (B cap : Nat) (hc : W.cell? ⟨B, 0, none⟩ = some (.int .u8 c)) :
    (convert 41 9 (.slice (some ⟨B, 0, none⟩) 1 cap)).run Tryz.prog W = .ok (.string ⟨#[x]⟩) W := by
  have := run_convert_bytes_back (P := Tryz.prog) W 41 9 5 ⟨B, 0, none⟩ cap [x] Tryz.underlying41 Tryz.underlying5 Tryz.underlying9 (fun j hj => by
    obtain rfl : j = 0 := by simp at hj; omega
    simp [Addr.add, hc, hx])
  simpa using this
set_option maxHeartbeats 2000000 in
theorem markText_any (k : Nat) (h0 : 1 ≤ k) (h1 : k ≤ 1000000000000000) (w : World) :
    Calls Tryz.prog 101 #[.int .i64 (k : Int)] w fun e w' => e = .returned (.string (mkT k)) ∧ Below w.heap.size w w' := by
  have HT : Hid (mkT k = (⟨#[109]⟩ : ByteArray) ++ mkD k ⟨#[]⟩) := rfl
  have g : ¬ (k : Int) ≤ 0 := by omega
  go_enter Tryz.func101, Tryz.ntmps101
  go_wp2
  go_loopw [0, 3] (fun x v wr => ∃ (j : Nat) (o : ByteArray), j ≤ k ∧ x = .int .i64 (j : Int) ∧ v = .string o ∧ mkD k ⟨#[]⟩ = mkD j o ∧ o.size + j ≤ k ∧ Below w.heap.size w wr) (fun x _ _ => (intOf x).toNat)
  case atStart => exact ⟨k, ⟨#[]⟩, Nat.le_refl _, rfl, rfl, rfl, by simp [ByteArray.size], Below.refl _ _⟩
  case round =>
    obtain ⟨j, o, hj, rfl, rfl, he, hs, hb⟩ := hrel
    have HE : Hid (mkD k ⟨#[]⟩ = mkD j o) := he
    have KB : Hid (Below w.heap.size w wr) := hb
    clear he hb
    by_cases hj0 : j = 0
    · subst hj0
      have HX : Hid (mkD k ⟨#[]⟩ = o) := by show _ = _; rw [HE.out, mkD_zero]
      have zk : (⟨#[109]⟩ : ByteArray).size = 1 := rfl
      have hadd := fun w => run_string_add_sum (P := Tryz.prog) (w := w) (⟨#[109]⟩ : ByteArray) o (by omega)
      clear zk
      go_wp2_with fail
      go_ret
      exact ⟨ret_str (by rw [HT.out, HX.out]), KB.out⟩
    · have HX : Hid (mkD k ⟨#[]⟩ = mkD (j / 10) ((⟨#[UInt8.ofNat (48 + j % 10)]⟩ : ByteArray) ++ o)) := by show _ = _; rw [HE.out, mkD_more hj0]
      have hcv := one_byteM (48 + (j : Int) % 10) (UInt8.ofNat (48 + j % 10)) (by rw [UInt8.toNat_ofNat_of_lt' (by show 48 + j % 10 < 256; omega)]; omega)
      have zr : (⟨#[UInt8.ofNat (48 + j % 10)]⟩ : ByteArray).size = 1 := rfl
      generalize (⟨#[UInt8.ofNat (48 + j % 10)]⟩ : ByteArray) = r at *
      have zq : (r ++ o).size = 1 + o.size := by rw [ByteArray.size_append, zr]
      have hadd := fun w => run_string_add_sum (P := Tryz.prog) (w := w) r o (by omega)
      generalize r ++ o = q at *
      have g1 : (0 : Int) < (j : Int) := by omega
      have e2 : IntKind.u8.wrap (48 + (j : Int) % 10) = 48 + (j : Int) % 10 := by rw [IntKind.wrap_u8]; omega
      have hj9 : (j : Int) ≤ 1000000000000000 := by omega
      go_wp2_with fail
      go_roundw
      case rel => exact ⟨j / 10, q, by omega, by go_num, rfl, HX.out, by omega, KB.out.alloc KB.out.size _⟩
      case measure => simp [intOf]; omega
end Go.Proofs.YtaphofdcoddopaaGreatDoor
/-
  markHeaderS and heldHeaderS: marks laid into head lines, and found again.
-/
namespace Go.Proofs.YtaphofdcoddopaaGreatDoor
open Go.ChangeShapes Go.WideShapes Go.ChangeAt Go.RowKit Go.Sort
def mkHR (k : Nat) (j : Nat) : Hdr := ⟨mkT (k + 2 * j), mkT (k + 2 * j + 1)⟩
def mkHL (k n : Nat) : List Hdr := (List.range n).map (mkHR k)
theorem mkHL_len (k n : Nat) : (mkHL k n).length = n := by simp [mkHL]
theorem mkHL_get {k n i : Nat} (h : i < n) : (mkHL k n)[i]? = some (mkHR k i) := by simp [mkHL, h]
theorem hcell_set_same {w : World} {g o : Nat} {u v : Value} (h : w.cell? ⟨g, o, none⟩ = some u) : (w.setCell ⟨g, o, none⟩ v).cell? ⟨g, o, none⟩ = some v := World.cell?_setCell_same _ _ _ h
theorem hcell_set_off {w : World} {g o o' : Nat} {v : Value} (h : o ≠ o') : (w.setCell ⟨g, o', none⟩ v).cell? ⟨g, o, none⟩ = w.cell? ⟨g, o, none⟩ :=
  World.cell?_setCell_other _ _ _ _ (by intro e; have := congrArg Addr.off e; simp at this; omega)
/-- One field of one line written. -/
theorem hput_name {w : World} {g off i : Nat} {L : List Hdr} {r : Hdr} (h : HeadsAt w g off L) (hr : L[i]? = some r) (n : ByteArray) :
    HeadsAt (w.setCell ⟨g, off + i * 2, none⟩ (.string n)) g off (L.set i { r with name := n }) := by
  intro j q hq
  by_cases e : j = i
  · subst e
    have hl := (List.getElem?_eq_some_iff.1 hr).1
    rw [List.getElem?_set_self hl] at hq
    obtain rfl := Option.some.inj hq
    obtain ⟨a, c⟩ := h j r hr
    exact ⟨hcell_set_same a, by rw [hcell_set_off (by omega)]; exact c⟩
  · rw [List.getElem?_set_ne (fun k => e k.symm)] at hq
    obtain ⟨a, c⟩ := h j q hq
    exact ⟨by rw [hcell_set_off (by omega)]; exact a, by rw [hcell_set_off (by omega)]; exact c⟩
theorem hput_value {w : World} {g off i : Nat} {L : List Hdr} {r : Hdr} (h : HeadsAt w g off L) (hr : L[i]? = some r) (n : ByteArray) :
    HeadsAt (w.setCell ⟨g, off + i * 2 + 1, none⟩ (.string n)) g off (L.set i { r with value := n }) := by
  intro j q hq
  by_cases e : j = i
  · subst e
    have hl := (List.getElem?_eq_some_iff.1 hr).1
    rw [List.getElem?_set_self hl] at hq
    obtain rfl := Option.some.inj hq
    obtain ⟨a, c⟩ := h j r hr
    exact ⟨by rw [hcell_set_off (by omega)]; exact a, hcell_set_same c⟩
  · rw [List.getElem?_set_ne (fun k => e k.symm)] at hq
    obtain ⟨a, c⟩ := h j q hq
    exact ⟨by rw [hcell_set_off (by omega)]; exact a, by rw [hcell_set_off (by omega)]; exact c⟩
/-- The state of the marking loop: j lines are marked. -/
structure HMarked (w : World) (g off : Nat) (k n j : Nat) (L : List Hdr) (W : World) : Prop where
  len : L.length = n
  done : ∀ i, i < j → L[i]? = some (mkHR k i)
  items : HeadsAt W g off L
  thaw : ∀ o, W.frozen? ⟨g, o, none⟩ = false
  apart : Apart g w W
  low : Below g w W
  lt : g < W.heap.size
theorem HMarked.below {w : World} {g off k n j : Nat} {L : List Hdr} {W W' : World} (h : HMarked w g off k n j L W) (hb : Below W.heap.size W W') : HMarked w g off k n j L W' :=
  ⟨h.len, h.done, h.items.keep hb, fun o => by rw [hb.frozen (p := ⟨g, o, none⟩) h.lt, h.thaw], h.apart.trans (.below hb), h.low.trans (hb.mono (Nat.le_of_lt h.lt)), Nat.lt_of_lt_of_le h.lt hb.size⟩
theorem HMarked.set {w : World} {g off k n j o : Nat} {L L' : List Hdr} {W : World} {v : Value} (h : HMarked w g off k n j L W) (hl : L'.length = L.length) (hd : ∀ i, i < j → L'[i]? = L[i]?) (hi : HeadsAt (W.setCell ⟨g, o, none⟩ v) g off L') : HMarked w g off k n j L' (W.setCell ⟨g, o, none⟩ v) :=
  ⟨hl.trans h.len, fun i hi => (hd i hi).trans (h.done i hi), hi, fun o => by rw [World.frozen?_setCell, h.thaw], h.apart.trans (.set _ _ _ _), h.low.setCell (Nat.le_refl _) _, by simpa using h.lt⟩
end Go.Proofs.YtaphofdcoddopaaGreatDoor
/-
  markHeaderS and heldHeaderS.
-/
namespace Go.Proofs.YtaphofdcoddopaaGreatDoor
open Go.ChangeShapes Go.WideShapes Go.ChangeAt Go.RowKit Go.Sort
set_option maxRecDepth 100000 in
set_option maxHeartbeats 4000000 in
theorem markHeaderS_any (w : World) (g off cap n k : Nat) (l : List Hdr) (hn : l.length = n) (hn2 : n ≤ 1048576) (hk0 : 1 ≤ k) (hk1 : k ≤ 100000000000000) (hi : HeadsAt w g off l) (hf : ∀ o, w.frozen? ⟨g, o, none⟩ = false) (hg : g < w.heap.size) :
    Calls Tryz.prog 83 #[.slice (some ⟨g, off, none⟩) n cap, .int .i64 (k : Int)] w fun e w' => e = .returned (.int .i64 ((k + 2 * n : Nat) : Int)) ∧ HeadsAt w' g off (mkHL k n) ∧ Apart g w w' ∧ Below g w w' ∧ ∀ o, w'.frozen? ⟨g, o, none⟩ = false := by
  have HST : Hid (HMarked w g off k n 0 l w) := ⟨hn, fun i h => by omega, hi, hf, .refl _ _, Below.refl _ _, hg⟩
  clear hi hf hg hn
  go_enter Tryz.func83, Tryz.ntmps83
  go_wp2_with fail
  go_loopw [1, 5] (fun x i wr => ∃ (j : Nat) (L : List Hdr), j ≤ n ∧ i = .int .i64 (j : Int) ∧ x = .int .i64 ((k + 2 * j : Nat) : Int) ∧ HMarked w g off k n j L wr) (fun _ i _ => n - (intOf i).toNat)
  case atStart => exact ⟨0, l, Nat.zero_le _, rfl, rfl, HST.out⟩
  case round =>
    obtain ⟨j, L, hj, rfl, rfl, hm⟩ := hrel
    have HM : Hid (HMarked w g off k n j L wr) := hm
    clear hm HST
    by_cases hlt : j < n
    · obtain ⟨r, hr⟩ : ∃ r, L[j]? = some r := ⟨L[j]'(by have := HM.out.len; omega), List.getElem?_eq_getElem _⟩
      have HR : Hid (L[j]? = some r) := hr
      clear hr
      have g0 : (0 : Int) ≤ j := by omega
      have g1 : (j : Int) < n := by omega
      have HT1 : Hid (∀ w, Calls Tryz.prog 101 #[.int .i64 ((k + 2 * j : Nat) : Int)] w fun e w' => e = .returned (.string (mkT (k + 2 * j))) ∧ Below w.heap.size w w') := markText_any (k + 2 * j) (by omega) (by omega)
      go_wp2_with fail
      refine (HT1.out _).mono ?_
      rintro e w1 ⟨rfl, hb1⟩
      have HM1 : Hid (HMarked w g off k n j L w1) := HM.out.below hb1
      clear hb1 HM
      obtain ⟨p1, p3⟩ := HM1.out.items j r HR.out
      have f1 := HM1.out.thaw (off + j * 2)
      have HT2 : Hid (∀ w, Calls Tryz.prog 101 #[.int .i64 ((k : Int) + 2 * j + 1)] w fun e w' => e = .returned (.string (mkT (k + 2 * j + 1))) ∧ Below w.heap.size w w') := by
        have := markText_any (k + 2 * j + 1) (by omega) (by omega)
        rw [show ((k + 2 * j + 1 : Nat) : Int) = (k : Int) + 2 * j + 1 by omega] at this
        exact this
      have hl : Hid (j < L.length) := (List.getElem?_eq_some_iff.1 HR.out).1
      have HM2 := HM1.out.set (L' := L.set j { r with name := mkT (k + 2 * j) }) (by simp) (fun i hi => by rw [List.getElem?_set_ne (by omega)]) (hput_name HM1.out.items HR.out (mkT (k + 2 * j)))
      have HM4 : Hid _ := HM2
      clear HM2 HM1
      go_wp2_with fail
      refine (HT2.out _).mono ?_
      rintro e w2 ⟨rfl, hb2⟩
      have HM5 : Hid (HMarked w g off k n j (L.set j { r with name := mkT (k + 2 * j) }) w2) := HM4.out.below hb2
      clear hb2 HM4 p1 p3 f1
      have hr5 : (L.set j { r with name := mkT (k + 2 * j) })[j]? = some { r with name := mkT (k + 2 * j) } := List.getElem?_set_self hl.out
      obtain ⟨p1, p3⟩ := HM5.out.items j _ hr5
      have f3 := HM5.out.thaw (off + j * 2 + 1)
      have HM6 := HM5.out.set (L' := (L.set j { r with name := mkT (k + 2 * j) }).set j (mkHR k j)) (by simp) (fun i hi => by rw [List.getElem?_set_ne (by omega)]) (by
        have := hput_value HM5.out.items hr5 (mkT (k + 2 * j + 1))
        exact this)
      have HM7 : Hid _ := HM6
      clear HM6 hr5 HM5
      go_wp2_with fail
      go_roundw
      case rel => exact ⟨j + 1, _, by omega, by go_num, by congr 1, HM7.out.len, fun i hi => by
        by_cases e : i = j
        · subst e; exact List.getElem?_set_self (by simpa using hl.out)
        · exact HM7.out.done i (by omega), HM7.out.items, HM7.out.thaw, HM7.out.apart, HM7.out.low, HM7.out.lt⟩
      case measure => simp [intOf]; omega
    · obtain rfl : j = n := by omega
      have HX : Hid (HeadsAt wr g off (mkHL k j)) := by
        have e : L = mkHL k j := by
          apply List.ext_getElem?
          intro i
          by_cases hi : i < j
          · rw [HM.out.done i hi, mkHL_get hi]
          · rw [List.getElem?_eq_none (by have := HM.out.len; omega), List.getElem?_eq_none (by rw [mkHL_len]; omega)]
        show HeadsAt _ _ _ _
        rw [← e]
        exact HM.out.items
      go_wp2_with fail
      go_ret
      exact ⟨rfl, HX.out, HM.out.apart, HM.out.low, HM.out.thaw⟩
set_option maxRecDepth 100000 in
set_option maxHeartbeats 4000000 in
theorem heldHeaderS_any (w : World) (g off cap n k : Nat) (hn2 : n ≤ 1048576) (hk0 : 1 ≤ k) (hk1 : k ≤ 100000000000000) (hi : HeadsAt w g off (mkHL k n)) :
    Calls Tryz.prog 135 #[.slice (some ⟨g, off, none⟩) n cap, .int .i64 (k : Int)] w fun e w' => e = .returned (.int .i64 ((k + 2 * n : Nat) : Int)) ∧ Below w.heap.size w w' := by
  have HI : Hid (HeadsAt w g off (mkHL k n)) := hi
  clear hi
  go_enter Tryz.func135, Tryz.ntmps135
  go_wp2_with fail
  go_loopw [1, 5] (fun x i wr => ∃ (j : Nat), j ≤ n ∧ i = .int .i64 (j : Int) ∧ x = .int .i64 ((k + 2 * j : Nat) : Int) ∧ Below w.heap.size w wr) (fun _ i _ => n - (intOf i).toNat)
  case atStart => exact ⟨0, Nat.zero_le _, rfl, rfl, Below.refl _ _⟩
  case round =>
    obtain ⟨j, hj, rfl, rfl, hb⟩ := hrel
    have KB : Hid (Below w.heap.size w wr) := hb
    clear hb
    by_cases hlt : j < n
    · obtain ⟨p1, p3⟩ := (HI.out.keep KB.out) j _ (mkHL_get hlt)
      have q1 : wr.cell? ⟨g, off + j * 2, none⟩ = some (.string (mkT (k + 2 * j))) := p1
      have q3 : wr.cell? ⟨g, off + j * 2 + 1, none⟩ = some (.string (mkT (k + 2 * j + 1))) := p3
      clear p1 p3
      have g0 : (0 : Int) ≤ j := by omega
      have g1 : (j : Int) < n := by omega
      have HT1 : Hid (∀ w, Calls Tryz.prog 101 #[.int .i64 ((k : Int) + 2 * j)] w fun e w' => e = .returned (.string (mkT (k + 2 * j))) ∧ Below w.heap.size w w') := by
        have := markText_any (k + 2 * j) (by omega) (by omega)
        rw [show ((k + 2 * j : Nat) : Int) = (k : Int) + 2 * j by omega] at this
        exact this
      have HT2 : Hid (∀ w, Calls Tryz.prog 101 #[.int .i64 ((k : Int) + 2 * j + 1)] w fun e w' => e = .returned (.string (mkT (k + 2 * j + 1))) ∧ Below w.heap.size w w') := by
        have := markText_any (k + 2 * j + 1) (by omega) (by omega)
        rw [show ((k + 2 * j + 1 : Nat) : Int) = (k : Int) + 2 * j + 1 by omega] at this
        exact this
      have KC : Hid (wr.cell? ⟨g, off + j * 2 + 1, none⟩ = some (.string (mkT (k + 2 * j + 1)))) := q3
      clear q3
      generalize mkT (k + 2 * j) = t1 at *
      generalize mkT (k + 2 * j + 1) = t2 at *
      have x1 := cell_regrown q1
      clear q1
      have cE : ∀ d os, Calls Tryz.prog 101 #[.int .i64 ((k : Int) + 2 * j)] (grow (redrawn wr d) os) fun e w'' => e = .returned (.string t1) ∧ ∃ p : Regrown, w'' = grow (redrawn wr p.d) p.os := fun d os => Calls.regrown_of (HT1.out _)
      go_wp2_with fail
      refine wp_region_quiet_below (by kernel_rfl) (by kernel_rfl) ?_
      repeat (go_big_quiet_step ((go_at_call 101; exact cE _ _)))
      refine wpQuiet_nil ?_
      intro w2 hw2
      have hb2 : Below wr.heap.size wr w2 := by
        obtain ⟨⟨d, os⟩, rfl⟩ := hw2
        exact below_regrown wr d os
      have KB2 : Hid (Below w.heap.size w w2) := KB.out.trans (hb2.mono KB.out.size)
      have y3 : w2.cell? ⟨g, off + j * 2 + 1, none⟩ = some (.string t2) := by rw [hb2.cell (block_lt_of_cell KC.out), KC.out]
      have x3 := cell_regrown y3
      clear x1 cE hw2 hb2 KB KC y3
      have cF : ∀ d os, Calls Tryz.prog 101 #[.int .i64 ((k : Int) + 2 * j + 1)] (grow (redrawn w2 d) os) fun e w'' => e = .returned (.string t2) ∧ ∃ p : Regrown, w'' = grow (redrawn w2 p.d) p.os := fun d os => Calls.regrown_of (HT2.out _)
      go_wp2_with fail
      refine wp_region_quiet_below (by kernel_rfl) (by kernel_rfl) ?_
      repeat (go_big_quiet_step ((go_at_call 101; exact cF _ _)))
      refine wpQuiet_nil ?_
      intro w3 hw3
      have KB3 : Hid (Below w.heap.size w w3) := by
        obtain ⟨⟨d, os⟩, rfl⟩ := hw3
        exact KB2.out.trans ((below_regrown w2 d os).mono KB2.out.size)
      clear x3 cF hw3 KB2
      go_wp2_with fail
      go_roundw
      case rel => exact ⟨j + 1, by omega, by go_num, by congr 1, KB3.out⟩
      case measure => simp [intOf]; omega
    · obtain rfl : j = n := by omega
      go_wp2_with fail
      go_ret
      exact ⟨rfl, KB.out⟩
end Go.Proofs.YtaphofdcoddopaaGreatDoor
/-
  Head lines as a value: compared, marked, held.
-/
namespace Go.Proofs.YtaphofdcoddopaaGreatDoor
open Go.ChangeShapes Go.WideShapes Go.ChangeAt Go.RowKit Go.Sort
def HLV (w : World) (v : Value) (l : List Hdr) : Prop :=
  (v = .slice none 0 0 ∧ l = []) ∨ ∃ g cap, v = .slice (some ⟨g, 0, none⟩) l.length cap ∧ g < w.heap.size ∧ HeadsAt w g 0 l ∧ ∀ o, w.frozen? ⟨g, o, none⟩ = false
theorem OwnH.lv {w : World} {base : Nat} {v : Value} {l : List Hdr} (h : OwnH w base v l) : HLV w v l ∧ ∀ b, v.ownBlock = some b → base ≤ b := by
  have h0 := h
  obtain ⟨_, h1 | ⟨g, c, cur, rfl, hg, hh, _⟩⟩ := h
  · have e : l = [] := List.eq_nil_of_length_eq_zero h1.2
    exact ⟨.inl ⟨h1.1, e⟩, fun b hb => by rw [h1.1] at hb; cases hb⟩
  · refine ⟨.inr ⟨g, c, rfl, (Array.getElem?_eq_some_iff.1 hh).1, ?_, fun o => ?_⟩, fun b hb => ?_⟩
    · obtain ⟨a, c', e, hi⟩ := h0.at
      rcases hi with rfl | ⟨b, off, rfl, hat⟩
      · intro i r hr; simp at hr
      · simp only [Value.slice.injEq, Option.some.injEq] at e
        obtain ⟨e, _⟩ := e
        have e1 := congrArg Addr.block e
        have e2 := congrArg Addr.off e
        simp only at e1 e2
        rw [e1, e2]
        exact hat
    · simp [World.frozen?, hh]
    · simp only [Value.ownBlock, Option.some.injEq] at hb; omega
theorem HLV.below {w w' : World} {v : Value} {l : List Hdr} (h : HLV w v l) (hb : Below w.heap.size w w') : HLV w' v l := by
  rcases h with h | ⟨g, c, e, hg, hi, hf⟩
  · exact .inl h
  · exact .inr ⟨g, c, e, Nat.lt_of_lt_of_le hg hb.size, hi.keep hb, fun o => by rw [hb.frozen (p := ⟨g, o, none⟩) hg, hf]⟩
/-- All that was there, but for the memory of v, is as it was. -/
structure HAV (v : Value) (w w' : World) : Prop where
  size : w.heap.size ≤ w'.heap.size
  cell : ∀ b o, b < w.heap.size → v.ownBlock ≠ some b → w'.cell? ⟨b, o, none⟩ = w.cell? ⟨b, o, none⟩
  frozen : ∀ b o, b < w.heap.size → v.ownBlock ≠ some b → w'.frozen? ⟨b, o, none⟩ = w.frozen? ⟨b, o, none⟩
theorem HAV.below {v : Value} {w w' : World} (h : Below w.heap.size w w') : HAV v w w' :=
  ⟨h.size, fun b o hb _ => h.cell (p := ⟨b, o, none⟩) hb, fun b o hb _ => h.frozen (p := ⟨b, o, none⟩) hb⟩
theorem HLV.av {w w' : World} {v v1 : Value} {l : List Hdr} (h : HLV w v1 l) (k : HAV v w w') (hne : ∀ b, v1.ownBlock = some b → v.ownBlock ≠ some b) : HLV w' v1 l := by
  rcases h with h | ⟨g, c, rfl, hg, hi, hf⟩
  · exact .inl h
  · have hn := hne g rfl
    exact .inr ⟨g, c, rfl, Nat.lt_of_lt_of_le hg k.size, fun i r hr => by rw [k.cell g _ hg hn, k.cell g _ hg hn]; exact hi i r hr, fun o => by rw [k.frozen g o hg hn, hf]⟩
set_option maxHeartbeats 1000000 in
theorem eqHeaderS_nil (w : World) (a b : Option Addr) (c d : Nat) :
    Calls Tryz.prog 80 #[.slice a 0 c, .slice b 0 d] w fun e w' => e = .returned (.bool true) ∧ Below w.heap.size w w' := by
  go_enter Tryz.func80, Tryz.ntmps80
  go_wp2_with fail
  go_loop [5] (fun i => i = .int .i64 0) (fun _ => 0)
  case atStart => rfl
  case round =>
    obtain rfl := hrel
    go_wp2_with fail
    go_ret
    exact ⟨rfl, Below.refl _ _⟩
theorem eqHeaderS_lv (w : World) (v1 v2 : Value) (l : List Hdr) (hl : l.length ≤ 1048576) (h1 : HLV w v1 l) (h2 : HLV w v2 l) :
    Calls Tryz.prog 80 #[v1, v2] w fun e w' => e = .returned (.bool true) ∧ Below w.heap.size w w' := by
  rcases h1 with ⟨rfl, rfl⟩ | ⟨g, c, rfl, _, hi, _⟩
  · rcases h2 with ⟨rfl, _⟩ | ⟨g, c, rfl, _, _, _⟩
    · exact eqHeaderS_nil w _ _ _ _
    · exact eqHeaderS_nil w _ _ _ _
  · rcases h2 with ⟨rfl, rfl⟩ | ⟨g', c', rfl, _, hi', _⟩
    · exact eqHeaderS_nil w _ _ _ _
    · exact eqHeaderS_same w g 0 g' 0 c c' l hl hi hi'
set_option maxHeartbeats 1000000 in
theorem markHeaderS_nil (w : World) (a : Option Addr) (c k : Nat) :
    Calls Tryz.prog 83 #[.slice a 0 c, .int .i64 (k : Int)] w fun e w' => e = .returned (.int .i64 (k : Int)) ∧ Below w.heap.size w w' := by
  go_enter Tryz.func83, Tryz.ntmps83
  go_wp2_with fail
  go_loop [1, 5] (fun x i => x = .int .i64 (k : Int) ∧ i = .int .i64 0) (fun _ _ => 0)
  case atStart => exact ⟨rfl, rfl⟩
  case round =>
    obtain ⟨rfl, rfl⟩ := hrel
    go_wp2_with fail
    go_ret
    exact ⟨rfl, Below.refl _ _⟩
set_option maxHeartbeats 1000000 in
theorem heldHeaderS_nil (w : World) (a : Option Addr) (c k : Nat) :
    Calls Tryz.prog 135 #[.slice a 0 c, .int .i64 (k : Int)] w fun e w' => e = .returned (.int .i64 (k : Int)) ∧ Below w.heap.size w w' := by
  go_enter Tryz.func135, Tryz.ntmps135
  go_wp2_with fail
  go_loop [1, 5] (fun x i => x = .int .i64 (k : Int) ∧ i = .int .i64 0) (fun _ _ => 0)
  case atStart => exact ⟨rfl, rfl⟩
  case round =>
    obtain ⟨rfl, rfl⟩ := hrel
    go_wp2_with fail
    go_ret
    exact ⟨rfl, Below.refl _ _⟩
theorem markHeaderS_lv (w : World) (v : Value) (l : List Hdr) (hl : l.length ≤ 1048576) (h : HLV w v l) (base : Nat) (hb : ∀ b, v.ownBlock = some b → base ≤ b) (hbs : base ≤ w.heap.size) :
    Calls Tryz.prog 83 #[v, .int .i64 1] w fun e w' => e = .returned (.int .i64 ((1 + 2 * l.length : Nat) : Int)) ∧ HLV w' v (mkHL 1 l.length) ∧ HAV v w w' ∧ Below base w w' := by
  rcases h with ⟨rfl, rfl⟩ | ⟨g, c, rfl, hg, hi, hf⟩
  · exact (markHeaderS_nil w none 0 1).mono fun _ _ ⟨h1, h2⟩ => ⟨h1, .inl ⟨rfl, rfl⟩, .below h2, h2.mono hbs⟩
  · refine (markHeaderS_any w g 0 c l.length 1 l rfl hl (by omega) (by omega) hi hf hg).mono ?_
    rintro e w' ⟨h1, h2, h3, h4, h5⟩
    have hne : ∀ b, (Value.slice (some ⟨g, 0, none⟩) l.length c).ownBlock ≠ some b → b ≠ g := fun b hb e => hb (by subst e; rfl)
    refine ⟨h1, ?_, ⟨h3.size, fun b o hb hn => h3.cell b o hb (hne b hn), fun b o hb hn => h3.frozen b o hb (hne b hn)⟩, h4.mono (hb g rfl)⟩
    exact .inr ⟨g, c, by rw [mkHL_len], Nat.lt_of_lt_of_le hg h3.size, h2, h5⟩
theorem heldHeaderS_lv (w : World) (v : Value) (n : Nat) (hl : n ≤ 1048576) (h : HLV w v (mkHL 1 n)) :
    Calls Tryz.prog 135 #[v, .int .i64 1] w fun e w' => e = .returned (.int .i64 ((1 + 2 * n : Nat) : Int)) ∧ Below w.heap.size w w' := by
  rcases h with ⟨rfl, h0⟩ | ⟨g, c, rfl, _, hi, _⟩
  · have e := congrArg List.length h0
    rw [mkHL_len] at e
    simp at e
    subst e
    exact heldHeaderS_nil w none 0 1
  · rw [mkHL_len]
    exact heldHeaderS_any w g 0 c n 1 hl (by omega) (by omega) hi
end Go.Proofs.YtaphofdcoddopaaGreatDoor
/-
  What LowerText answers where the text is not too long.
-/
namespace Go.Proofs.YtaphofdcoddopaaGreatDoor
open Go.ChangeShapes Go.WideShapes Go.ChangeAt Go.RowKit
end Go.Proofs.YtaphofdcoddopaaGreatDoor
/-
  Fields of results; what lies in memory behind a call.
-/
namespace Go.Proofs.YtaphofdcoddopaaGreatDoor
open Go.ChangeShapes Go.WideShapes Go.ChangeAt Go.RowKit Go.Sort
theorem f_field_code (c : Int) (s : ByteArray) (w : World) : (Instr.field 161 (.agg #[.int .i64 c, .string s]) 0).run Tryz.prog w = .ok (.int .i64 c) w := by kernel_rfl
theorem f_field_text (c : Int) (s : ByteArray) (w : World) : (Instr.field 161 (.agg #[.int .i64 c, .string s]) 1).run Tryz.prog w = .ok (.string s) w := by kernel_rfl
theorem f_keep {W W' : World} (hb : Below W.heap.size W W') {p : Addr} {v : Value} (h : W.cell? p = some v) : W'.cell? p = some v := by
  rw [hb.cell (block_lt_of_cell h)]; exact h
theorem f_keepA {W : World} {p : Addr} {v : Value} (o : Obj) (h : W.cell? p = some v) : (W.alloc o).cell? p = some v := f_keep ((Below.refl _ _).alloc (Nat.le_refl _) _) h
end Go.Proofs.YtaphofdcoddopaaGreatDoor
/-
  Names that are alike; what is asked ahead by all that look for a name.
-/
namespace Go.Proofs.YtaphofdcoddopaaGreatDoor
open Go.ChangeShapes Go.WideShapes Go.ChangeAt Go.RowKit Go.Sort
theorem lowS_size (s : ByteArray) : (lowS s).size = s.size := by
  show ((s.data.toList.map lowU).toArray).size = s.data.size
  rw [List.size_toArray, List.length_map, Array.length_toList]
set_option maxHeartbeats 1000000 in
theorem hclone_any (s : ByteArray) (w : World) (hs : s.size ≤ 1048576) :
    Calls Tryz.prog 124 #[.string s] w fun e w' => e = .returned (.string s) ∧ Below w.heap.size w w' := by
  go_enter Tryz.func124, Tryz.ntmps124
  go_wp2_with fail
  refine (Any.stringslite_Clone Tryz.laysM316 s _ (by omega)).mono ?_
  rintro e w1 ⟨rfl, hb⟩
  go_wp2
  go_ret
  exact ⟨rfl, hb⟩
theorem hdr_free {w w1 : World} {t : TypeId} (hb : Below (w.heap.size + 1) (w.alloc (.cells #[.string ⟨#[]⟩, .string ⟨#[]⟩] t)) w1) :
    w.heap.size < w1.heap.size ∧ w1.cell? ⟨w.heap.size, 0, none⟩ = some (.string ⟨#[]⟩) ∧ w1.cell? ⟨w.heap.size, 1, none⟩ = some (.string ⟨#[]⟩) ∧ w1.frozen? ⟨w.heap.size, 0, none⟩ = false ∧ w1.frozen? ⟨w.heap.size, 1, none⟩ = false ∧ Below w.heap.size w w1 := by
  have hz := hb.size
  simp only [World.size_alloc] at hz
  exact ⟨hz, by rw [hb.cell (p := ⟨w.heap.size, 0, none⟩) (Nat.lt_succ_self _)]; simp, by rw [hb.cell (p := ⟨w.heap.size, 1, none⟩) (Nat.lt_succ_self _)]; simp, by rw [hb.frozen (p := ⟨w.heap.size, 0, none⟩) (Nat.lt_succ_self _)]; simp, by rw [hb.frozen (p := ⟨w.heap.size, 1, none⟩) (Nat.lt_succ_self _)]; simp, ((Below.refl _ _).alloc (Nat.le_refl _) _).trans (hb.mono (Nat.le_succ _))⟩
set_option maxHeartbeats 1000000 in
theorem lineOf_any (n v : ByteArray) (w : World) (hn : n.size ≤ 1048576) (hv : v.size ≤ 1048576) :
    Calls Tryz.prog 134 #[.string n, .string v] w fun e w' => e = .returned (.agg #[.string n, .string v]) ∧ Below w.heap.size w w' := by
  go_enter Tryz.func134, Tryz.ntmps134
  go_wp2_with fail
  refine (hclone_any n _ hn).mono ?_
  rintro e w1 ⟨rfl, hb1⟩
  simp only [World.size_alloc] at hb1
  go_wp2_with fail
  refine (hclone_any v _ hv).mono ?_
  rintro e w2 ⟨rfl, hb2⟩
  have hz1 : w.heap.size + 1 ≤ w1.heap.size := by have := hb1.size; rwa [World.size_alloc] at this
  obtain ⟨hz2, q0, q1, f0, f1, kb⟩ := hdr_free (hb1.trans (hb2.mono hz1))
  obtain ⟨r0, r1⟩ := two_set (v0 := .string n) (v1 := .string v) q0 q1
  clear hb1 hb2 hz1
  go_wp2_with fail
  exact bodyPost_ret (v := .agg #[.string n, .string v]) (by simp [results, Tryz.results134, go_sem, r0, r1]) rfl ⟨rfl, (kb.setCell (Nat.le_refl _) _).setCell (Nat.le_refl _) _⟩
end Go.Proofs.YtaphofdcoddopaaGreatDoor
/-
  What firstPlaces and linesNamed answer.
-/
namespace Go.Proofs.YtaphofdcoddopaaGreatDoor
open Go.ChangeShapes Go.WideShapes Go.ChangeAt Go.RowKit Go.Sort
theorem firstAt_known {l : List Hdr} {r : Hdr} {j : Nat} (h : firstAt (lowS r.name) l = some j) (x : ByteArray) : firstAt x l = firstAt x (l ++ [r]) := by
  rw [firstAt_snoc]
  cases c : firstAt x l with
  | some i => rfl
  | none =>
    by_cases e : lowS r.name = x
    · subst e; rw [h] at c; cases c
    · simp only [if_neg e]
theorem firstAt_new {l : List Hdr} {r : Hdr} (h : firstAt (lowS r.name) l = none) (x : ByteArray) : (if x = lowS r.name then some l.length else firstAt x l) = firstAt x (l ++ [r]) := by
  rw [firstAt_snoc]
  by_cases e : x = lowS r.name
  · subst e
    rw [if_pos rfl, h]
    simp
  · rw [if_neg e]
    cases c : firstAt x l with
    | some i => rfl
    | none => simp only [if_neg (fun q => e (Eq.symm q))]
/-- What is left of the lines: those whose names the map has. -/
def keptH (p : ByteArray → Option Nat) (l : List Hdr) : List Hdr := l.filter fun r => (p (lowS r.name)).isSome
theorem keptH_yes {p : ByteArray → Option Nat} {r : Hdr} {i : Nat} (l : List Hdr) (h : p (lowS r.name) = some i) : keptH p (l ++ [r]) = keptH p l ++ [r] := by simp [keptH, h]
theorem keptH_no {p : ByteArray → Option Nat} {r : Hdr} (l : List Hdr) (h : p (lowS r.name) = none) : keptH p (l ++ [r]) = keptH p l := by simp [keptH, h]
theorem keptH_len (p : ByteArray → Option Nat) (l : List Hdr) : (keptH p l).length ≤ l.length := List.length_filter_le _ _
def KeptRes (base : Nat) (L : List Hdr) (e : Ending) (w : World) : Prop := ∃ v, e = .returned v ∧ OwnH w base v L
theorem KeptRes.mk {base : Nat} {L M : List Hdr} {w : World} {v : Value} (h : M = L) (ho : OwnH w base v L) : KeptRes base M (.returned v) w := ⟨v, rfl, h ▸ ho⟩
end Go.Proofs.YtaphofdcoddopaaGreatDoor
