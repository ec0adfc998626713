/-
  Texts of one claim, one behind the other.
-/
import Derived.BigQuiet
import Derived.ChangeArms
import Derived.Deep.CutBlock
import Derived.Deep.CutRange
import Derived.JoinedCond
import Derived.Lib.QuietBelow
import Derived.MakeChecks
import Derived.ProofKit
import Derived.Test.YtgejegmilkmiiaaGreatDoorRows
import Derived.Test.YtgejegmilkmiiaaGreatDoorMgB
/-
  What RequestFault and its model answer.
-/
namespace Go.Proofs.YtgejegmilkmiiaaGreatDoor
open Go.ChangeShapes Go.WideShapes Go.ChangeAt Go.RowKit
theorem heads_sizes {l : List Hdr} (h : headsC l = 0) : l.length ≤ 20 ∧ ∀ (i : Nat) r, l[i]? = some r → r.name.size ≤ 64 ∧ r.value.size ≤ 200 := by
  obtain ⟨h1, h2⟩ := headsC_zero h
  refine ⟨h1, fun i r hr => ?_⟩
  obtain ⟨a, b, _⟩ := faultH_zero (h2 i r hr)
  exact ⟨hword_max a, b⟩
theorem lit_ne {m : ByteArray} {l : List UInt8} (h : ¬ m = ⟨l.toArray⟩) : (m.toList == l) = false := by
  rw [beq_eq_false_iff_ne, ByteArray.toList_eq]
  intro e
  apply h
  rw [← e]
theorem anyV_nil {vs : List ByteArray} (h : vs = []) : anyV vs = false := by subst h; rfl
theorem anyV_some {vs : List ByteArray} (h : vs ≠ []) : anyV vs = true := by simpa [anyV] using h
/-- A request, boxed. -/
def rqV (m h p : ByteArray) (a : Option Addr) (n cap : Nat) : Value := .agg #[.string m, .string h, .string p, .slice a n cap]
theorem reqJoin {l : List Hdr} (h : headsC l = 0) : (valsOf hostN l ≠ [] → joinC l ⟨#[72, 111, 115, 116]⟩ = 0) ∧ (valsOf hostN l = [] → joinC l ⟨#[72, 111, 115, 116]⟩ = 4) := by
  have e0 : askC l hostT = 0 := askC_word h hostT_word
  refine ⟨fun hv => ?_, fun hv => ?_⟩
  · exact (join_some e0 (by rw [hostT_low]; exact hv)).1
  · exact (join_none e0 (by rw [hostT_low]; exact hv)).1
set_option maxHeartbeats 4000000 in
theorem specReq_get (w : World) (h p : ByteArray) (a : Option Addr) (cap : Nat) (l : List Hdr) (hl : l.length ≤ 1048576) (hi : HdsIn w a l) :
    Calls Tryz.prog 68 #[.agg #[.string ⟨#[71, 69, 84]⟩, .string h, .string p, .slice a l.length cap]] w fun e w' => e = .returned (.int .i64 (reqC ⟨#[71, 69, 84]⟩ h p l)) ∧ Below w.heap.size w w' := by
  have HM : methS ⟨#[71, 69, 84]⟩ = true := by decide +kernel
  have CH := fun W => l5Host_any h W
  have CP := fun W => l5Path_any p W
  have bW : Below w.heap.size w (w.alloc (.cells #[.string ⟨#[71, 69, 84]⟩, .string h, .string p, .slice a l.length cap] 26)) := (Below.refl _ _).alloc (Nat.le_refl _) _
  cases ch : hostS h
  · have HE : Hid (reqC ⟨#[71, 69, 84]⟩ h p l = 5) := reqC_bad (by simp [lineS, ch])
    simp only [ch] at CH
    have HB : Hid (Below w.heap.size w (w.alloc (.cells #[.string ⟨#[71, 69, 84]⟩, .string h, .string p, .slice a l.length cap] 26))) := bW
    clear bW HM hi ch CP
    go_enter Tryz.func68, Tryz.ntmps68
    go_wp2_with (go_at_call 100; refine (CH _).mono ?_; rintro e w' ⟨rfl, rfl⟩)
    go_ret
    exact ⟨ret_int HE.out.symm, HB.out⟩
  simp only [ch] at CH
  cases cp : pathS p
  · have HE : Hid (reqC ⟨#[71, 69, 84]⟩ h p l = 5) := reqC_bad (by simp [lineS, cp])
    simp only [cp] at CP
    have HB : Hid (Below w.heap.size w (w.alloc (.cells #[.string ⟨#[71, 69, 84]⟩, .string h, .string p, .slice a l.length cap] 26))) := bW
    clear bW HM hi ch cp
    go_enter Tryz.func68, Tryz.ntmps68
    go_wp2_with (first | (go_at_call 100; refine (CH _).mono ?_; rintro e w' ⟨rfl, rfl⟩) | (go_at_call 101; refine (CP _).mono ?_; rintro e w' ⟨rfl, rfl⟩))
    go_ret
    exact ⟨ret_int HE.out.symm, HB.out⟩
  simp only [cp] at CP
  have hls : lineS ⟨#[71, 69, 84]⟩ h p = true := by simp [lineS, HM, ch, cp]
  have HR : Hid (reqC ⟨#[71, 69, 84]⟩ h p l = restC l) := reqC_ok hls
  obtain ⟨W, hW⟩ : ∃ W, W = w.alloc (.cells #[.string ⟨#[71, 69, 84]⟩, .string h, .string p, .slice a l.length cap] 26) := ⟨_, rfl⟩
  have HW : Hid (W = w.alloc (.cells #[.string ⟨#[71, 69, 84]⟩, .string h, .string p, .slice a l.length cap] 26)) := hW
  have hc3 : W.cell? ⟨w.heap.size, 3, none⟩ = some (.slice a l.length cap) := by rw [hW, World.cell?_alloc_mark]; rfl
  rw [← hW] at bW
  have hlt : w.heap.size < W.heap.size := by rw [hW]; simp
  have CF := specHFault_any W a cap l hl (hi.keep bW)
  have HI : Hid (HdsIn w a l) := hi
  have HB : Hid (Below w.heap.size w W) := bW
  clear hi bW hW ch cp hls HM
  go_enter Tryz.func68, Tryz.ntmps68
  go_wp2_with (first | (go_at_call 100; refine (CH _).mono ?_; rintro e w' ⟨rfl, rfl⟩) | (go_at_call 101; refine (CP _).mono ?_; rintro e w' ⟨rfl, rfl⟩))
  rw [← HW.out]
  refine CF.mono ?_
  rintro e w1 ⟨rfl, hb1⟩
  clear CF CH CP HW
  have hc3' : w1.cell? ⟨w.heap.size, 3, none⟩ = some (.slice a l.length cap) := by rw [hb1.cell (p := ⟨w.heap.size, 3, none⟩) hlt]; exact hc3
  have HB1 : Hid (Below w.heap.size w w1) := HB.out.trans (hb1.mono HB.out.size)
  have hlt1 : w.heap.size < w1.heap.size := Nat.lt_of_lt_of_le hlt hb1.size
  clear hb1 hc3 hlt HB
  by_cases c0 : headsC l = 0
  · obtain ⟨s1, s2⟩ := heads_sizes c0
    have CJ := l4Join_any w1 a cap l hostN s1 s2 (by decide) (HI.out.keep HB1.out)
    rw [hostN_low] at CJ
    have HJ : Hid (Calls Tryz.prog 103 #[.slice a l.length cap, .string ⟨#[104, 111, 115, 116]⟩] w1 fun e w' => e = .returned (.tuple #[.string ⟨(hjoinL (valsOf hostN l)).toArray⟩, .bool (anyV (valsOf hostN l))]) ∧ Below w1.heap.size w1 w') := CJ
    have HE1 : Hid (valsOf hostN l ≠ [] → restC l = 6) := fun hv => restC_host c0 hv
    have HE2 : Hid (valsOf hostN l = [] → 20 ≤ l.length → restC l = 2) := fun hv hn => restC_many c0 hv hn
    have HE3 : Hid (valsOf hostN l = [] → ¬ 20 ≤ l.length → restC l = 0) := fun hv hn => restC_ok c0 hv hn
    rw [c0]
    clear c0 s2 CJ HI
    generalize (⟨(hjoinL (valsOf hostN l)).toArray⟩ : ByteArray) = t at *
    go_wp2_with fail
    refine HJ.out.mono ?_
    rintro e w2 ⟨rfl, hb2⟩
    have hc4 : w2.cell? ⟨w.heap.size, 3, none⟩ = some (.slice a l.length cap) := by rw [hb2.cell (p := ⟨w.heap.size, 3, none⟩) hlt1]; exact hc3'
    have HB2 : Hid (Below w.heap.size w w2) := HB1.out.trans (hb2.mono HB1.out.size)
    clear hb2 HJ hc3' hlt1
    by_cases cv : valsOf hostN l = []
    · rw [anyV_nil cv]
      by_cases cn : 20 ≤ l.length
      · have HE : Hid (reqC ⟨#[71, 69, 84]⟩ h p l = 2) := by show _ = _; rw [HR.out]; exact HE2.out cv cn
        have cn' : (20 : Int) ≤ l.length := by omega
        clear HE1 HE2 HE3 HR cv cn
        generalize l.length = n at *
        go_wp2_with fail
        go_ret
        exact ⟨ret_int HE.out.symm, HB2.out⟩
      · have HE : Hid (reqC ⟨#[71, 69, 84]⟩ h p l = 0) := by show _ = _; rw [HR.out]; exact HE3.out cv cn
        have cn' : ¬ (20 : Int) ≤ l.length := by omega
        clear HE1 HE2 HE3 HR cv cn
        generalize l.length = n at *
        go_wp2_with fail
        go_ret
        exact ⟨ret_int HE.out.symm, HB2.out⟩
    · rw [anyV_some cv]
      have HE : Hid (reqC ⟨#[71, 69, 84]⟩ h p l = 6) := by show _ = _; rw [HR.out]; exact HE1.out cv
      clear HE1 HE2 HE3 HR cv
      go_wp2_with fail
      go_ret
      exact ⟨ret_int HE.out.symm, HB2.out⟩
  · have HE : Hid (reqC ⟨#[71, 69, 84]⟩ h p l = headsC l) := by show _ = _; rw [HR.out]; exact restC_heads c0
    clear HR HI
    generalize headsC l = c at *
    go_wp2_with fail
    go_ret
    exact ⟨ret_int HE.out.symm, HB1.out⟩
set_option maxHeartbeats 4000000 in
theorem specReq_head (w : World) (h p : ByteArray) (a : Option Addr) (cap : Nat) (l : List Hdr) (hl : l.length ≤ 1048576) (hi : HdsIn w a l) :
    Calls Tryz.prog 68 #[.agg #[.string ⟨#[72, 69, 65, 68]⟩, .string h, .string p, .slice a l.length cap]] w fun e w' => e = .returned (.int .i64 (reqC ⟨#[72, 69, 65, 68]⟩ h p l)) ∧ Below w.heap.size w w' := by
  have HM : methS ⟨#[72, 69, 65, 68]⟩ = true := by decide +kernel
  have CH := fun W => l5Host_any h W
  have CP := fun W => l5Path_any p W
  have bW : Below w.heap.size w (w.alloc (.cells #[.string ⟨#[72, 69, 65, 68]⟩, .string h, .string p, .slice a l.length cap] 26)) := (Below.refl _ _).alloc (Nat.le_refl _) _
  cases ch : hostS h
  · have HE : Hid (reqC ⟨#[72, 69, 65, 68]⟩ h p l = 5) := reqC_bad (by simp [lineS, ch])
    simp only [ch] at CH
    have HB : Hid (Below w.heap.size w (w.alloc (.cells #[.string ⟨#[72, 69, 65, 68]⟩, .string h, .string p, .slice a l.length cap] 26))) := bW
    clear bW HM hi ch CP
    go_enter Tryz.func68, Tryz.ntmps68
    go_wp2_with (go_at_call 100; refine (CH _).mono ?_; rintro e w' ⟨rfl, rfl⟩)
    go_ret
    exact ⟨ret_int HE.out.symm, HB.out⟩
  simp only [ch] at CH
  cases cp : pathS p
  · have HE : Hid (reqC ⟨#[72, 69, 65, 68]⟩ h p l = 5) := reqC_bad (by simp [lineS, cp])
    simp only [cp] at CP
    have HB : Hid (Below w.heap.size w (w.alloc (.cells #[.string ⟨#[72, 69, 65, 68]⟩, .string h, .string p, .slice a l.length cap] 26))) := bW
    clear bW HM hi ch cp
    go_enter Tryz.func68, Tryz.ntmps68
    go_wp2_with (first | (go_at_call 100; refine (CH _).mono ?_; rintro e w' ⟨rfl, rfl⟩) | (go_at_call 101; refine (CP _).mono ?_; rintro e w' ⟨rfl, rfl⟩))
    go_ret
    exact ⟨ret_int HE.out.symm, HB.out⟩
  simp only [cp] at CP
  have hls : lineS ⟨#[72, 69, 65, 68]⟩ h p = true := by simp [lineS, HM, ch, cp]
  have HR : Hid (reqC ⟨#[72, 69, 65, 68]⟩ h p l = restC l) := reqC_ok hls
  obtain ⟨W, hW⟩ : ∃ W, W = w.alloc (.cells #[.string ⟨#[72, 69, 65, 68]⟩, .string h, .string p, .slice a l.length cap] 26) := ⟨_, rfl⟩
  have HW : Hid (W = w.alloc (.cells #[.string ⟨#[72, 69, 65, 68]⟩, .string h, .string p, .slice a l.length cap] 26)) := hW
  have hc3 : W.cell? ⟨w.heap.size, 3, none⟩ = some (.slice a l.length cap) := by rw [hW, World.cell?_alloc_mark]; rfl
  rw [← hW] at bW
  have hlt : w.heap.size < W.heap.size := by rw [hW]; simp
  have CF := specHFault_any W a cap l hl (hi.keep bW)
  have HI : Hid (HdsIn w a l) := hi
  have HB : Hid (Below w.heap.size w W) := bW
  clear hi bW hW ch cp hls HM
  go_enter Tryz.func68, Tryz.ntmps68
  go_wp2_with (first | (go_at_call 100; refine (CH _).mono ?_; rintro e w' ⟨rfl, rfl⟩) | (go_at_call 101; refine (CP _).mono ?_; rintro e w' ⟨rfl, rfl⟩))
  rw [← HW.out]
  refine CF.mono ?_
  rintro e w1 ⟨rfl, hb1⟩
  clear CF CH CP HW
  have hc3' : w1.cell? ⟨w.heap.size, 3, none⟩ = some (.slice a l.length cap) := by rw [hb1.cell (p := ⟨w.heap.size, 3, none⟩) hlt]; exact hc3
  have HB1 : Hid (Below w.heap.size w w1) := HB.out.trans (hb1.mono HB.out.size)
  have hlt1 : w.heap.size < w1.heap.size := Nat.lt_of_lt_of_le hlt hb1.size
  clear hb1 hc3 hlt HB
  by_cases c0 : headsC l = 0
  · obtain ⟨s1, s2⟩ := heads_sizes c0
    have CJ := l4Join_any w1 a cap l hostN s1 s2 (by decide) (HI.out.keep HB1.out)
    rw [hostN_low] at CJ
    have HJ : Hid (Calls Tryz.prog 103 #[.slice a l.length cap, .string ⟨#[104, 111, 115, 116]⟩] w1 fun e w' => e = .returned (.tuple #[.string ⟨(hjoinL (valsOf hostN l)).toArray⟩, .bool (anyV (valsOf hostN l))]) ∧ Below w1.heap.size w1 w') := CJ
    have HE1 : Hid (valsOf hostN l ≠ [] → restC l = 6) := fun hv => restC_host c0 hv
    have HE2 : Hid (valsOf hostN l = [] → 20 ≤ l.length → restC l = 2) := fun hv hn => restC_many c0 hv hn
    have HE3 : Hid (valsOf hostN l = [] → ¬ 20 ≤ l.length → restC l = 0) := fun hv hn => restC_ok c0 hv hn
    rw [c0]
    clear c0 s2 CJ HI
    generalize (⟨(hjoinL (valsOf hostN l)).toArray⟩ : ByteArray) = t at *
    go_wp2_with fail
    refine HJ.out.mono ?_
    rintro e w2 ⟨rfl, hb2⟩
    have hc4 : w2.cell? ⟨w.heap.size, 3, none⟩ = some (.slice a l.length cap) := by rw [hb2.cell (p := ⟨w.heap.size, 3, none⟩) hlt1]; exact hc3'
    have HB2 : Hid (Below w.heap.size w w2) := HB1.out.trans (hb2.mono HB1.out.size)
    clear hb2 HJ hc3' hlt1
    by_cases cv : valsOf hostN l = []
    · rw [anyV_nil cv]
      by_cases cn : 20 ≤ l.length
      · have HE : Hid (reqC ⟨#[72, 69, 65, 68]⟩ h p l = 2) := by show _ = _; rw [HR.out]; exact HE2.out cv cn
        have cn' : (20 : Int) ≤ l.length := by omega
        clear HE1 HE2 HE3 HR cv cn
        generalize l.length = n at *
        go_wp2_with fail
        go_ret
        exact ⟨ret_int HE.out.symm, HB2.out⟩
      · have HE : Hid (reqC ⟨#[72, 69, 65, 68]⟩ h p l = 0) := by show _ = _; rw [HR.out]; exact HE3.out cv cn
        have cn' : ¬ (20 : Int) ≤ l.length := by omega
        clear HE1 HE2 HE3 HR cv cn
        generalize l.length = n at *
        go_wp2_with fail
        go_ret
        exact ⟨ret_int HE.out.symm, HB2.out⟩
    · rw [anyV_some cv]
      have HE : Hid (reqC ⟨#[72, 69, 65, 68]⟩ h p l = 6) := by show _ = _; rw [HR.out]; exact HE1.out cv
      clear HE1 HE2 HE3 HR cv
      go_wp2_with fail
      go_ret
      exact ⟨ret_int HE.out.symm, HB2.out⟩
  · have HE : Hid (reqC ⟨#[72, 69, 65, 68]⟩ h p l = headsC l) := by show _ = _; rw [HR.out]; exact restC_heads c0
    clear HR HI
    generalize headsC l = c at *
    go_wp2_with fail
    go_ret
    exact ⟨ret_int HE.out.symm, HB1.out⟩
set_option maxHeartbeats 1000000 in
theorem specReq_any (w : World) (m h p : ByteArray) (a : Option Addr) (cap : Nat) (l : List Hdr) (hl : l.length ≤ 1048576) (hi : HdsIn w a l) :
    Calls Tryz.prog 68 #[.agg #[.string m, .string h, .string p, .slice a l.length cap]] w fun e w' => e = .returned (.int .i64 (reqC m h p l)) ∧ Below w.heap.size w w' := by
  by_cases c1 : m = ⟨#[71, 69, 84]⟩
  · subst c1; exact specReq_get w h p a cap l hl hi
  by_cases c2 : m = ⟨#[72, 69, 65, 68]⟩
  · subst c2; exact specReq_head w h p a cap l hl hi
  have HE : Hid (reqC m h p l = 5) := reqC_bad (by
    have : methS m = false := by simp only [methS, getT, headT, c1, c2, decide_false]; rfl
    simp [lineS, this])
  have d1 : (m.toList == [71, 69, 84]) = false := lit_ne c1
  have d2 : (m.toList == [72, 69, 65, 68]) = false := lit_ne c2
  clear c1 c2
  clear hi
  go_enter Tryz.func68, Tryz.ntmps68
  go_wp2_with fail
  go_ret
  exact ⟨ret_int HE.out.symm, (Below.refl _ _).alloc (Nat.le_refl _) _⟩
set_option maxHeartbeats 8000000 in
theorem implReq_get (E : Errs) (w : World) (h p : ByteArray) (a : Option Addr) (cap : Nat) (l : List Hdr) (hl : l.length ≤ 1048576) (hcap : l.length ≤ cap) (hps : p.size ≤ 1048576) (hset : SetIs w) (hE : ErrsIs w E) (hi : HdsIn w a l) :
    Calls Tryz.prog 120 #[.agg #[.string ⟨#[71, 69, 84]⟩, .string h, .string p, .slice a l.length cap]] w fun e w' => e = .returned (errV E (reqC ⟨#[71, 69, 84]⟩ h p l)) ∧ Below w.heap.size w w' := by
  have HM : methS ⟨#[71, 69, 84]⟩ = true := by decide +kernel
  obtain ⟨W, hW⟩ : ∃ W, W = w.alloc (.cells #[.string ⟨#[71, 69, 84]⟩, .string h, .string p, .slice a l.length cap] 26) := ⟨_, rfl⟩
  have bW : Below w.heap.size w W := by rw [hW]; exact (Below.refl _ _).alloc (Nat.le_refl _) _
  have HW : Hid (W = w.alloc (.cells #[.string ⟨#[71, 69, 84]⟩, .string h, .string p, .slice a l.length cap] 26)) := hW
  have hlt : w.heap.size < W.heap.size := by rw [hW]; simp
  have hc2 : W.cell? ⟨w.heap.size, 2, none⟩ = some (.string p) := by rw [hW, World.cell?_alloc_mark]; rfl
  have hc3 : W.cell? ⟨w.heap.size, 3, none⟩ = some (.slice a l.length cap) := by rw [hW, World.cell?_alloc_mark]; rfl
  clear hW
  have CH := isHost_any h W
  have HI : Hid (∀ X, Below w.heap.size w X → HdsIn X a l) := fun X hb => hi.keep hb
  have HS : Hid (∀ X, Below w.heap.size w X → SetIs X) := fun X hb => hset.below hb
  have HE0 : Hid (∀ X, Below w.heap.size w X → ErrsIs X E) := fun X hb => hE.below hb
  have HB : Hid (Below w.heap.size w W) := bW
  clear hi hset hE bW
  cases ch : hostS h
  · have HE : Hid (errV E (reqC ⟨#[71, 69, 84]⟩ h p l) = .iface 243 (.pointer (some E.u))) := by show _ = _; rw [reqC_bad (by simp [lineS, ch])]; rfl
    simp only [ch] at CH
    clear HM ch hc2 hc3 hlt
    go_enter Tryz.func120, Tryz.ntmps120
    go_wp2_with fail
    rw [← HW.out]
    refine CH.mono ?_
    rintro e w1 ⟨rfl, hb1⟩
    have HB1 : Hid (Below w.heap.size w w1) := HB.out.trans (hb1.mono HB.out.size)
    have gU := (HE0.out _ HB1.out).gU
    clear CH HW hb1 HB HE0
    go_wp2_with fail
    go_ret
    exact ⟨congrArg Ending.returned HE.out.symm, HB1.out⟩
  simp only [ch] at CH
  have CP : Hid (∀ X, Below w.heap.size w X → Calls Tryz.prog 140 #[.string p] X fun e w' => e = .returned (.bool (pathS p)) ∧ Below X.heap.size X w') := fun X hb => isPath_any p X (HS.out X hb) hps
  cases cp : pathS p
  · have HE : Hid (errV E (reqC ⟨#[71, 69, 84]⟩ h p l) = .iface 243 (.pointer (some E.u))) := by show _ = _; rw [reqC_bad (by simp [lineS, cp])]; rfl
    rw [cp] at CP
    clear HM ch cp hc3 hps
    go_enter Tryz.func120, Tryz.ntmps120
    go_wp2_with fail
    rw [← HW.out]
    refine CH.mono ?_
    rintro e w1 ⟨rfl, hb1⟩
    have HB1 : Hid (Below w.heap.size w w1) := HB.out.trans (hb1.mono HB.out.size)
    have hc2' : w1.cell? ⟨w.heap.size, 2, none⟩ = some (.string p) := by rw [hb1.cell (p := ⟨w.heap.size, 2, none⟩) hlt]; exact hc2
    clear CH HW hb1 HB hc2 hlt
    have C2 := CP.out w1 HB1.out
    go_wp2_with fail
    refine C2.mono ?_
    rintro e w2 ⟨rfl, hb2⟩
    have HB2 : Hid (Below w.heap.size w w2) := HB1.out.trans (hb2.mono HB1.out.size)
    have gU := (HE0.out _ HB2.out).gU
    clear C2 CP hb2 HB1 HE0 hc2'
    go_wp2_with fail
    go_ret
    exact ⟨congrArg Ending.returned HE.out.symm, HB2.out⟩
  rw [cp] at CP
  have hls : lineS ⟨#[71, 69, 84]⟩ h p = true := by simp [lineS, HM, ch, cp]
  have HR : Hid (reqC ⟨#[71, 69, 84]⟩ h p l = restC l) := reqC_ok hls
  have HK := headsC_codes l
  have CF : Hid (∀ X, Below w.heap.size w X → Calls Tryz.prog 142 #[.slice a l.length cap] X fun e w' => e = .returned (.int .i64 (headsC l)) ∧ Below X.heap.size X w') := fun X hb => implHFault_any X a cap l hl (HS.out X hb) (HI.out X hb)
  clear hls HM ch cp hps
  go_enter Tryz.func120, Tryz.ntmps120
  go_wp2_with fail
  rw [← HW.out]
  refine CH.mono ?_
  rintro e w1 ⟨rfl, hb1⟩
  have HB1 : Hid (Below w.heap.size w w1) := HB.out.trans (hb1.mono HB.out.size)
  have hc2' : w1.cell? ⟨w.heap.size, 2, none⟩ = some (.string p) := by rw [hb1.cell (p := ⟨w.heap.size, 2, none⟩) hlt]; exact hc2
  have hc3' : w1.cell? ⟨w.heap.size, 3, none⟩ = some (.slice a l.length cap) := by rw [hb1.cell (p := ⟨w.heap.size, 3, none⟩) hlt]; exact hc3
  have hlt1 : w.heap.size < w1.heap.size := Nat.lt_of_lt_of_le hlt hb1.size
  clear CH HW hb1 HB hc2 hc3 hlt
  have C2 := CP.out w1 HB1.out
  go_wp2_with fail
  refine C2.mono ?_
  rintro e w2 ⟨rfl, hb2⟩
  have HB2 : Hid (Below w.heap.size w w2) := HB1.out.trans (hb2.mono HB1.out.size)
  have hc3 : w2.cell? ⟨w.heap.size, 3, none⟩ = some (.slice a l.length cap) := by rw [hb2.cell (p := ⟨w.heap.size, 3, none⟩) hlt1]; exact hc3'
  have hlt2 : w.heap.size < w2.heap.size := Nat.lt_of_lt_of_le hlt1 hb2.size
  clear C2 CP hb2 HB1 hc2' hc3' hlt1
  have C3 := CF.out w2 HB2.out
  go_wp2_with fail
  refine C3.mono ?_
  rintro e w3 ⟨rfl, hb3⟩
  have HB3 : Hid (Below w.heap.size w w3) := HB2.out.trans (hb3.mono HB2.out.size)
  have hc3' : w3.cell? ⟨w.heap.size, 3, none⟩ = some (.slice a l.length cap) := by rw [hb3.cell (p := ⟨w.heap.size, 3, none⟩) hlt2]; exact hc3
  have hlt3 : w.heap.size < w3.heap.size := Nat.lt_of_lt_of_le hlt2 hb3.size
  clear C3 CF hb3 HB2 hc3 hlt2
  have C4 := headError_any E (headsC l) w3 (HE0.out _ HB3.out) HK
  by_cases c0 : headsC l = 0
  · rw [c0] at C4
    rw [errV0] at C4
    rw [c0]
    have CJ : Calls Tryz.prog 143 #[.slice a l.length cap, .string ⟨#[72, 111, 115, 116]⟩] w3 fun e w' => e = .returned (.agg #[.int .i64 (joinC l ⟨#[72, 111, 115, 116]⟩), .string (joinT l ⟨#[72, 111, 115, 116]⟩)]) ∧ Below w3.heap.size w3 w' := implJoin_any w3 a cap l ⟨#[72, 111, 115, 116]⟩ hl hcap (HS.out _ HB3.out) (HI.out _ HB3.out)
    obtain ⟨hj1, hj2⟩ := reqJoin c0
    have HJ : Hid (Calls Tryz.prog 143 #[.slice a l.length cap, .string ⟨#[72, 111, 115, 116]⟩] w3 fun e w' => e = .returned (.agg #[.int .i64 (joinC l ⟨#[72, 111, 115, 116]⟩), .string (joinT l ⟨#[72, 111, 115, 116]⟩)]) ∧ Below w3.heap.size w3 w') := CJ
    clear CJ
    generalize joinT l ⟨#[72, 111, 115, 116]⟩ = jt at *
    by_cases cv : valsOf hostN l = []
    · rw [hj2 cv] at HJ
      have HN := (headsC_zero c0).1
      clear hj1 hj2 HI HS HK
      by_cases cn : 20 ≤ l.length
      · have HE : Hid (errV E (reqC ⟨#[71, 69, 84]⟩ h p l) = .iface 243 (.pointer (some E.m))) := by show _ = _; rw [HR.out, restC_many c0 cv cn]; rfl
        have cn' : (l.length : Int) = 20 := by omega
        have cb : ((l.length : Int) == 20) = true := by rw [cn']; rfl
        clear HR cv cn cn' c0
        generalize l.length = n at *
        go_wp2_with fail
        refine C4.mono ?_
        rintro e w4 ⟨rfl, hw⟩
        obtain rfl := hw.symm
        clear C4 hw
        go_wp2_with fail
        refine HJ.out.mono ?_
        rintro e w5 ⟨rfl, hb5⟩
        have hc5 : w5.cell? ⟨w.heap.size, 3, none⟩ = some (.slice a n cap) := by rw [hb5.cell (p := ⟨w.heap.size, 3, none⟩) hlt3]; exact hc3'
        have HB5 : Hid (Below w.heap.size w w5) := HB3.out.trans (hb5.mono HB3.out.size)
        have gM := (HE0.out _ HB5.out).gM
        clear hb5 HJ hc3' hlt3 HB3 HE0
        have hfc := f_field_code
        go_wp2_with fail
        go_ret
        exact ⟨congrArg Ending.returned HE.out.symm, HB5.out⟩
      · have HE : Hid (errV E (reqC ⟨#[71, 69, 84]⟩ h p l) = .nilIface) := by show _ = _; rw [HR.out, restC_ok c0 cv cn]; rfl
        have cb : ((l.length : Int) == 20) = false := by rw [beq_eq_false_iff_ne]; omega
        clear HR cv cn c0 HE0
        generalize l.length = n at *
        go_wp2_with fail
        refine C4.mono ?_
        rintro e w4 ⟨rfl, hw⟩
        obtain rfl := hw.symm
        clear C4 hw
        go_wp2_with fail
        refine HJ.out.mono ?_
        rintro e w5 ⟨rfl, hb5⟩
        have hc5 : w5.cell? ⟨w.heap.size, 3, none⟩ = some (.slice a n cap) := by rw [hb5.cell (p := ⟨w.heap.size, 3, none⟩) hlt3]; exact hc3'
        have HB5 : Hid (Below w.heap.size w w5) := HB3.out.trans (hb5.mono HB3.out.size)
        clear hb5 HJ hc3' hlt3 HB3
        have hfc := f_field_code
        go_wp2_with fail
        go_ret
        exact ⟨congrArg Ending.returned HE.out.symm, HB5.out⟩
    · rw [hj1 cv] at HJ
      have HE : Hid (errV E (reqC ⟨#[71, 69, 84]⟩ h p l) = .iface 243 (.pointer (some E.d))) := by show _ = _; rw [HR.out, restC_host c0 cv]; rfl
      clear hj1 hj2 HI HS HK HR cv c0
      generalize l.length = n at *
      go_wp2_with fail
      refine C4.mono ?_
      rintro e w4 ⟨rfl, hw⟩
      obtain rfl := hw.symm
      clear C4 hw
      go_wp2_with fail
      refine HJ.out.mono ?_
      rintro e w5 ⟨rfl, hb5⟩
      have HB5 : Hid (Below w.heap.size w w5) := HB3.out.trans (hb5.mono HB3.out.size)
      have gD := (HE0.out _ HB5.out).gD
      clear hb5 HJ hc3' hlt3 HB3 HE0
      have hfc := f_field_code
      go_wp2_with fail
      go_ret
      exact ⟨congrArg Ending.returned HE.out.symm, HB5.out⟩
  · have HE : Hid (errV E (reqC ⟨#[71, 69, 84]⟩ h p l) = errV E (headsC l)) := by show _ = _; rw [HR.out, restC_heads c0]
    have hv : ∃ x, errV E (headsC l) = .iface 243 (.pointer (some x)) := by
      rcases HK with e | e | e
      · exact absurd e c0
      · rw [e]; exact ⟨_, rfl⟩
      · rw [e]; exact ⟨_, rfl⟩
    obtain ⟨x, hx⟩ := hv
    rw [hx] at C4 HE
    clear HR HI HS HK HE0 c0 hx
    generalize headsC l = c at *
    generalize l.length = n at *
    go_wp2_with fail
    refine C4.mono ?_
    rintro e w4 ⟨rfl, hw⟩
    obtain rfl := hw.symm
    clear C4 hw
    go_wp2_with fail
    go_ret
    exact ⟨congrArg Ending.returned HE.out.symm, HB3.out⟩
set_option maxHeartbeats 8000000 in
theorem implReq_head (E : Errs) (w : World) (h p : ByteArray) (a : Option Addr) (cap : Nat) (l : List Hdr) (hl : l.length ≤ 1048576) (hcap : l.length ≤ cap) (hps : p.size ≤ 1048576) (hset : SetIs w) (hE : ErrsIs w E) (hi : HdsIn w a l) :
    Calls Tryz.prog 120 #[.agg #[.string ⟨#[72, 69, 65, 68]⟩, .string h, .string p, .slice a l.length cap]] w fun e w' => e = .returned (errV E (reqC ⟨#[72, 69, 65, 68]⟩ h p l)) ∧ Below w.heap.size w w' := by
  have HM : methS ⟨#[72, 69, 65, 68]⟩ = true := by decide +kernel
  obtain ⟨W, hW⟩ : ∃ W, W = w.alloc (.cells #[.string ⟨#[72, 69, 65, 68]⟩, .string h, .string p, .slice a l.length cap] 26) := ⟨_, rfl⟩
  have bW : Below w.heap.size w W := by rw [hW]; exact (Below.refl _ _).alloc (Nat.le_refl _) _
  have HW : Hid (W = w.alloc (.cells #[.string ⟨#[72, 69, 65, 68]⟩, .string h, .string p, .slice a l.length cap] 26)) := hW
  have hlt : w.heap.size < W.heap.size := by rw [hW]; simp
  have hc2 : W.cell? ⟨w.heap.size, 2, none⟩ = some (.string p) := by rw [hW, World.cell?_alloc_mark]; rfl
  have hc3 : W.cell? ⟨w.heap.size, 3, none⟩ = some (.slice a l.length cap) := by rw [hW, World.cell?_alloc_mark]; rfl
  clear hW
  have CH := isHost_any h W
  have HI : Hid (∀ X, Below w.heap.size w X → HdsIn X a l) := fun X hb => hi.keep hb
  have HS : Hid (∀ X, Below w.heap.size w X → SetIs X) := fun X hb => hset.below hb
  have HE0 : Hid (∀ X, Below w.heap.size w X → ErrsIs X E) := fun X hb => hE.below hb
  have HB : Hid (Below w.heap.size w W) := bW
  clear hi hset hE bW
  cases ch : hostS h
  · have HE : Hid (errV E (reqC ⟨#[72, 69, 65, 68]⟩ h p l) = .iface 243 (.pointer (some E.u))) := by show _ = _; rw [reqC_bad (by simp [lineS, ch])]; rfl
    simp only [ch] at CH
    clear HM ch hc2 hc3 hlt
    go_enter Tryz.func120, Tryz.ntmps120
    go_wp2_with fail
    rw [← HW.out]
    refine CH.mono ?_
    rintro e w1 ⟨rfl, hb1⟩
    have HB1 : Hid (Below w.heap.size w w1) := HB.out.trans (hb1.mono HB.out.size)
    have gU := (HE0.out _ HB1.out).gU
    clear CH HW hb1 HB HE0
    go_wp2_with fail
    go_ret
    exact ⟨congrArg Ending.returned HE.out.symm, HB1.out⟩
  simp only [ch] at CH
  have CP : Hid (∀ X, Below w.heap.size w X → Calls Tryz.prog 140 #[.string p] X fun e w' => e = .returned (.bool (pathS p)) ∧ Below X.heap.size X w') := fun X hb => isPath_any p X (HS.out X hb) hps
  cases cp : pathS p
  · have HE : Hid (errV E (reqC ⟨#[72, 69, 65, 68]⟩ h p l) = .iface 243 (.pointer (some E.u))) := by show _ = _; rw [reqC_bad (by simp [lineS, cp])]; rfl
    rw [cp] at CP
    clear HM ch cp hc3 hps
    go_enter Tryz.func120, Tryz.ntmps120
    go_wp2_with fail
    rw [← HW.out]
    refine CH.mono ?_
    rintro e w1 ⟨rfl, hb1⟩
    have HB1 : Hid (Below w.heap.size w w1) := HB.out.trans (hb1.mono HB.out.size)
    have hc2' : w1.cell? ⟨w.heap.size, 2, none⟩ = some (.string p) := by rw [hb1.cell (p := ⟨w.heap.size, 2, none⟩) hlt]; exact hc2
    clear CH HW hb1 HB hc2 hlt
    have C2 := CP.out w1 HB1.out
    go_wp2_with fail
    refine C2.mono ?_
    rintro e w2 ⟨rfl, hb2⟩
    have HB2 : Hid (Below w.heap.size w w2) := HB1.out.trans (hb2.mono HB1.out.size)
    have gU := (HE0.out _ HB2.out).gU
    clear C2 CP hb2 HB1 HE0 hc2'
    go_wp2_with fail
    go_ret
    exact ⟨congrArg Ending.returned HE.out.symm, HB2.out⟩
  rw [cp] at CP
  have hls : lineS ⟨#[72, 69, 65, 68]⟩ h p = true := by simp [lineS, HM, ch, cp]
  have HR : Hid (reqC ⟨#[72, 69, 65, 68]⟩ h p l = restC l) := reqC_ok hls
  have HK := headsC_codes l
  have CF : Hid (∀ X, Below w.heap.size w X → Calls Tryz.prog 142 #[.slice a l.length cap] X fun e w' => e = .returned (.int .i64 (headsC l)) ∧ Below X.heap.size X w') := fun X hb => implHFault_any X a cap l hl (HS.out X hb) (HI.out X hb)
  clear hls HM ch cp hps
  go_enter Tryz.func120, Tryz.ntmps120
  go_wp2_with fail
  rw [← HW.out]
  refine CH.mono ?_
  rintro e w1 ⟨rfl, hb1⟩
  have HB1 : Hid (Below w.heap.size w w1) := HB.out.trans (hb1.mono HB.out.size)
  have hc2' : w1.cell? ⟨w.heap.size, 2, none⟩ = some (.string p) := by rw [hb1.cell (p := ⟨w.heap.size, 2, none⟩) hlt]; exact hc2
  have hc3' : w1.cell? ⟨w.heap.size, 3, none⟩ = some (.slice a l.length cap) := by rw [hb1.cell (p := ⟨w.heap.size, 3, none⟩) hlt]; exact hc3
  have hlt1 : w.heap.size < w1.heap.size := Nat.lt_of_lt_of_le hlt hb1.size
  clear CH HW hb1 HB hc2 hc3 hlt
  have C2 := CP.out w1 HB1.out
  go_wp2_with fail
  refine C2.mono ?_
  rintro e w2 ⟨rfl, hb2⟩
  have HB2 : Hid (Below w.heap.size w w2) := HB1.out.trans (hb2.mono HB1.out.size)
  have hc3 : w2.cell? ⟨w.heap.size, 3, none⟩ = some (.slice a l.length cap) := by rw [hb2.cell (p := ⟨w.heap.size, 3, none⟩) hlt1]; exact hc3'
  have hlt2 : w.heap.size < w2.heap.size := Nat.lt_of_lt_of_le hlt1 hb2.size
  clear C2 CP hb2 HB1 hc2' hc3' hlt1
  have C3 := CF.out w2 HB2.out
  go_wp2_with fail
  refine C3.mono ?_
  rintro e w3 ⟨rfl, hb3⟩
  have HB3 : Hid (Below w.heap.size w w3) := HB2.out.trans (hb3.mono HB2.out.size)
  have hc3' : w3.cell? ⟨w.heap.size, 3, none⟩ = some (.slice a l.length cap) := by rw [hb3.cell (p := ⟨w.heap.size, 3, none⟩) hlt2]; exact hc3
  have hlt3 : w.heap.size < w3.heap.size := Nat.lt_of_lt_of_le hlt2 hb3.size
  clear C3 CF hb3 HB2 hc3 hlt2
  have C4 := headError_any E (headsC l) w3 (HE0.out _ HB3.out) HK
  by_cases c0 : headsC l = 0
  · rw [c0] at C4
    rw [errV0] at C4
    rw [c0]
    have CJ : Calls Tryz.prog 143 #[.slice a l.length cap, .string ⟨#[72, 111, 115, 116]⟩] w3 fun e w' => e = .returned (.agg #[.int .i64 (joinC l ⟨#[72, 111, 115, 116]⟩), .string (joinT l ⟨#[72, 111, 115, 116]⟩)]) ∧ Below w3.heap.size w3 w' := implJoin_any w3 a cap l ⟨#[72, 111, 115, 116]⟩ hl hcap (HS.out _ HB3.out) (HI.out _ HB3.out)
    obtain ⟨hj1, hj2⟩ := reqJoin c0
    have HJ : Hid (Calls Tryz.prog 143 #[.slice a l.length cap, .string ⟨#[72, 111, 115, 116]⟩] w3 fun e w' => e = .returned (.agg #[.int .i64 (joinC l ⟨#[72, 111, 115, 116]⟩), .string (joinT l ⟨#[72, 111, 115, 116]⟩)]) ∧ Below w3.heap.size w3 w') := CJ
    clear CJ
    generalize joinT l ⟨#[72, 111, 115, 116]⟩ = jt at *
    by_cases cv : valsOf hostN l = []
    · rw [hj2 cv] at HJ
      have HN := (headsC_zero c0).1
      clear hj1 hj2 HI HS HK
      by_cases cn : 20 ≤ l.length
      · have HE : Hid (errV E (reqC ⟨#[72, 69, 65, 68]⟩ h p l) = .iface 243 (.pointer (some E.m))) := by show _ = _; rw [HR.out, restC_many c0 cv cn]; rfl
        have cn' : (l.length : Int) = 20 := by omega
        have cb : ((l.length : Int) == 20) = true := by rw [cn']; rfl
        clear HR cv cn cn' c0
        generalize l.length = n at *
        go_wp2_with fail
        refine C4.mono ?_
        rintro e w4 ⟨rfl, hw⟩
        obtain rfl := hw.symm
        clear C4 hw
        go_wp2_with fail
        refine HJ.out.mono ?_
        rintro e w5 ⟨rfl, hb5⟩
        have hc5 : w5.cell? ⟨w.heap.size, 3, none⟩ = some (.slice a n cap) := by rw [hb5.cell (p := ⟨w.heap.size, 3, none⟩) hlt3]; exact hc3'
        have HB5 : Hid (Below w.heap.size w w5) := HB3.out.trans (hb5.mono HB3.out.size)
        have gM := (HE0.out _ HB5.out).gM
        clear hb5 HJ hc3' hlt3 HB3 HE0
        have hfc := f_field_code
        go_wp2_with fail
        go_ret
        exact ⟨congrArg Ending.returned HE.out.symm, HB5.out⟩
      · have HE : Hid (errV E (reqC ⟨#[72, 69, 65, 68]⟩ h p l) = .nilIface) := by show _ = _; rw [HR.out, restC_ok c0 cv cn]; rfl
        have cb : ((l.length : Int) == 20) = false := by rw [beq_eq_false_iff_ne]; omega
        clear HR cv cn c0 HE0
        generalize l.length = n at *
        go_wp2_with fail
        refine C4.mono ?_
        rintro e w4 ⟨rfl, hw⟩
        obtain rfl := hw.symm
        clear C4 hw
        go_wp2_with fail
        refine HJ.out.mono ?_
        rintro e w5 ⟨rfl, hb5⟩
        have hc5 : w5.cell? ⟨w.heap.size, 3, none⟩ = some (.slice a n cap) := by rw [hb5.cell (p := ⟨w.heap.size, 3, none⟩) hlt3]; exact hc3'
        have HB5 : Hid (Below w.heap.size w w5) := HB3.out.trans (hb5.mono HB3.out.size)
        clear hb5 HJ hc3' hlt3 HB3
        have hfc := f_field_code
        go_wp2_with fail
        go_ret
        exact ⟨congrArg Ending.returned HE.out.symm, HB5.out⟩
    · rw [hj1 cv] at HJ
      have HE : Hid (errV E (reqC ⟨#[72, 69, 65, 68]⟩ h p l) = .iface 243 (.pointer (some E.d))) := by show _ = _; rw [HR.out, restC_host c0 cv]; rfl
      clear hj1 hj2 HI HS HK HR cv c0
      generalize l.length = n at *
      go_wp2_with fail
      refine C4.mono ?_
      rintro e w4 ⟨rfl, hw⟩
      obtain rfl := hw.symm
      clear C4 hw
      go_wp2_with fail
      refine HJ.out.mono ?_
      rintro e w5 ⟨rfl, hb5⟩
      have HB5 : Hid (Below w.heap.size w w5) := HB3.out.trans (hb5.mono HB3.out.size)
      have gD := (HE0.out _ HB5.out).gD
      clear hb5 HJ hc3' hlt3 HB3 HE0
      have hfc := f_field_code
      go_wp2_with fail
      go_ret
      exact ⟨congrArg Ending.returned HE.out.symm, HB5.out⟩
  · have HE : Hid (errV E (reqC ⟨#[72, 69, 65, 68]⟩ h p l) = errV E (headsC l)) := by show _ = _; rw [HR.out, restC_heads c0]
    have hv : ∃ x, errV E (headsC l) = .iface 243 (.pointer (some x)) := by
      rcases HK with e | e | e
      · exact absurd e c0
      · rw [e]; exact ⟨_, rfl⟩
      · rw [e]; exact ⟨_, rfl⟩
    obtain ⟨x, hx⟩ := hv
    rw [hx] at C4 HE
    clear HR HI HS HK HE0 c0 hx
    generalize headsC l = c at *
    generalize l.length = n at *
    go_wp2_with fail
    refine C4.mono ?_
    rintro e w4 ⟨rfl, hw⟩
    obtain rfl := hw.symm
    clear C4 hw
    go_wp2_with fail
    go_ret
    exact ⟨congrArg Ending.returned HE.out.symm, HB3.out⟩
set_option maxHeartbeats 1000000 in
theorem implReqE_any (E : Errs) (w : World) (m h p : ByteArray) (a : Option Addr) (cap : Nat) (l : List Hdr) (hl : l.length ≤ 1048576) (hcap : l.length ≤ cap) (hps : p.size ≤ 1048576) (hset : SetIs w) (hE : ErrsIs w E) (hi : HdsIn w a l) :
    Calls Tryz.prog 120 #[.agg #[.string m, .string h, .string p, .slice a l.length cap]] w fun e w' => e = .returned (errV E (reqC m h p l)) ∧ Below w.heap.size w w' := by
  by_cases c1 : m = ⟨#[71, 69, 84]⟩
  · subst c1; exact implReq_get E w h p a cap l hl hcap hps hset hE hi
  by_cases c2 : m = ⟨#[72, 69, 65, 68]⟩
  · subst c2; exact implReq_head E w h p a cap l hl hcap hps hset hE hi
  have HE : Hid (errV E (reqC m h p l) = .iface 243 (.pointer (some E.u))) := by
    show _ = _
    rw [reqC_bad (by
      have : methS m = false := by simp only [methS, getT, headT, c1, c2, decide_false]; rfl
      simp [lineS, this])]
    rfl
  have d1 : (m.toList == [71, 69, 84]) = false := lit_ne c1
  have d2 : (m.toList == [72, 69, 65, 68]) = false := lit_ne c2
  clear c1 c2
  have HB : Hid (Below w.heap.size w (w.alloc (.cells #[.string m, .string h, .string p, .slice a l.length cap] 26))) := (Below.refl _ _).alloc (Nat.le_refl _) _
  have gU := (hE.below HB.out).gU
  clear hi hset hE
  generalize l.length = n at *
  go_enter Tryz.func120, Tryz.ntmps120
  go_wp2_with fail
  go_ret
  exact ⟨congrArg Ending.returned HE.out.symm, HB.out⟩
set_option maxHeartbeats 1000000 in
theorem implReq_any (E : Errs) (w : World) (m h p : ByteArray) (a : Option Addr) (cap : Nat) (l : List Hdr) (hl : l.length ≤ 1048576) (hcap : l.length ≤ cap) (hps : p.size ≤ 1048576) (hset : SetIs w) (hE : ErrsIs w E) (hi : HdsIn w a l) :
    Calls Tryz.prog 97 #[.agg #[.string m, .string h, .string p, .slice a l.length cap]] w fun e w' => e = .returned (.int .i64 (reqC m h p l)) ∧ Below w.heap.size w w' := by
  have bW : Below w.heap.size w (w.alloc (.cells #[.string m, .string h, .string p, .slice a l.length cap] 26)) := (Below.refl _ _).alloc (Nat.le_refl _) _
  have C1 := implReqE_any E _ m h p a cap l hl hcap hps (hset.below bW) (hE.below bW) (hi.keep bW)
  have HK := reqC_codes m h p l
  have C2 : Hid (∀ X, ErrsIs X E → Calls Tryz.prog 119 #[errV E (reqC m h p l)] X fun e w' => e = .returned (.int .i64 (reqC m h p l)) ∧ w' = X) := fun X hX => codeOf_any E _ X hX (by omega)
  have HE0 : Hid (∀ X, Below w.heap.size w X → ErrsIs X E) := fun X hb => hE.below hb
  have HB : Hid (Below w.heap.size w (w.alloc (.cells #[.string m, .string h, .string p, .slice a l.length cap] 26))) := bW
  clear hi hset hE HK bW
  generalize reqC m h p l = c at *
  generalize l.length = n at *
  generalize errV E c = ev at *
  go_enter Tryz.func97, Tryz.ntmps97
  go_wp2_with fail
  refine C1.mono ?_
  rintro e w1 ⟨rfl, hb1⟩
  have HB1 : Hid (Below w.heap.size w w1) := HB.out.trans (hb1.mono HB.out.size)
  have C3 := C2.out w1 (HE0.out _ HB1.out)
  clear hb1 HB C1 C2 HE0
  go_wp2_with fail
  refine C3.mono ?_
  rintro e w2 ⟨rfl, hw⟩
  obtain rfl := hw.symm
  clear hw C3
  go_wp2_with fail
  go_ret
  exact ⟨rfl, HB1.out⟩
end Go.Proofs.YtgejegmilkmiiaaGreatDoor
/-
  The fault of a flight, by the program: pieces.
-/
namespace Go.Proofs.YtgejegmilkmiiaaGreatDoor
open Go.ChangeShapes Go.WideShapes Go.ChangeAt Go.RowKit Go.Sort
theorem within_time (x : Int) (w : World) : Calls Tryz.prog 50 #[.int .i64 x, .int .i64 0, .int .i64 1000000000000000] w fun r w' => r = .returned (.bool (timeB x)) ∧ w' = w := isWithin_all x 0 1000000000000000 w
set_option maxHeartbeats 2000000 in
theorem inBounds_any (w : World) (id : Int) (bk ot : Bool) (du : Int) (dm : Bool) :
    Calls Tryz.prog 62 #[.agg #[.int .i64 id, .bool bk, .bool ot, .int .i64 du, .bool dm]] w fun e w' => e = .returned (.bool (timeB id && timeB du)) ∧ Below w.heap.size w w' := by
  have HB : Hid (Below w.heap.size w (w.alloc (.cells #[.int .i64 id, .bool bk, .bool ot, .int .i64 du, .bool dm] 91))) := (Below.refl _ _).alloc (Nat.le_refl _) _
  have H1 : Hid (∀ x X, Calls Tryz.prog 50 #[.int .i64 x, .int .i64 0, .int .i64 1000000000000000] X fun r w' => r = .returned (.bool (timeB x)) ∧ w' = X) := within_time
  have H2 : Hid (∀ x X, Calls Tryz.prog 55 #[.int .i64 x] X fun r w' => r = .returned (.bool (timeB x)) ∧ w' = X) := isTime_all
  obtain ⟨Z, hZ⟩ : ∃ Z, Hid ((timeB id && timeB du) = Z) := ⟨_, rfl⟩
  rw [hZ.out]
  go_enter Tryz.func62, Tryz.ntmps62
  go_wp2_with fail
  refine (H1.out _ _).mono ?_
  rintro z w1 ⟨rfl, rfl⟩
  generalize timeB id = t1 at *
  cases t1
  · have HR : Hid (false = Z) := hZ.out
    clear hZ
    go_wp2_with fail
    go_ret
    exact ⟨ret_bool HR.out, HB.out⟩
  · go_wp2_with fail
    refine (H2.out _ _).mono ?_
    rintro z w1 ⟨rfl, rfl⟩
    generalize timeB du = t2 at *
    have HR : Hid (t2 = Z) := by have z := hZ.out; rw [Bool.true_and] at z; exact z
    clear hZ
    go_wp2_with fail
    go_ret
    exact ⟨ret_bool HR.out, HB.out⟩
set_option maxHeartbeats 2000000 in
theorem dueUnsent_any (w : World) (id : Int) (bk ot : Bool) (du : Int) (dm : Bool) :
    Calls Tryz.prog 64 #[.agg #[.int .i64 id, .bool bk, .bool ot, .int .i64 du, .bool dm]] w fun e w' => e = .returned (.bool (!ot && decide (du ≠ 0))) ∧ Below w.heap.size w w' := by
  have HB : Hid (Below w.heap.size w (w.alloc (.cells #[.int .i64 id, .bool bk, .bool ot, .int .i64 du, .bool dm] 91))) := (Below.refl _ _).alloc (Nat.le_refl _) _
  cases ot
  · by_cases c : du = 0
    · subst c
      go_enter Tryz.func64, Tryz.ntmps64
      go_wp2_with fail
      go_ret
      exact ⟨rfl, HB.out⟩
    · have c' : (du != 0) = true := by simpa using c
      have c2 : decide (du ≠ 0) = true := by simpa using c
      rw [c2]
      clear c c2
      go_enter Tryz.func64, Tryz.ntmps64
      go_wp2_with fail
      go_ret
      exact ⟨rfl, HB.out⟩
  · go_enter Tryz.func64, Tryz.ntmps64
    go_wp2_with fail
    go_ret
    exact ⟨rfl, HB.out⟩
def asC (ks : Nat) (rq : Int) : Int := if ks < 1 ∨ 500 < ks then 2 else rq
set_option maxHeartbeats 2000000 in
theorem askedFault_any (E : Errs) (w : World) (key m h p : ByteArray) (ha : Option Addr) (hc : Nat) (hs : List Hdr) (hl : hs.length ≤ 1048576) (hcap : hs.length ≤ hc) (hps : p.size ≤ 1048576) (hks : key.size ≤ 1048576) (hset : SetIs w) (hE : ErrsIs w E) (hi : HdsIn w ha hs) :
    Calls Tryz.prog 63 #[.agg #[.string key, .string m, .string h, .string p, .slice ha hs.length hc]] w fun e w' => e = .returned (.int .i64 (asC key.size (reqC m h p hs))) ∧ Below w.heap.size w w' := by
  have bW : Below w.heap.size w (w.alloc (.cells #[.string key, .string m, .string h, .string p, .slice ha hs.length hc] 89)) := (Below.refl _ _).alloc (Nat.le_refl _) _
  have C := implReq_any E _ m h p ha hc hs hl hcap hps (hset.below bW) (hE.below bW) (hi.keep bW)
  have HB : Hid (Below w.heap.size w (w.alloc (.cells #[.string key, .string m, .string h, .string p, .slice ha hs.length hc] 89))) := bW
  obtain ⟨Z, hZ⟩ : ∃ Z, Hid (asC key.size (reqC m h p hs) = Z) := ⟨_, rfl⟩
  rw [hZ.out]
  unfold asC at hZ
  clear bW hset hE hi hl hcap
  generalize reqC m h p hs = rq at *
  generalize hs.length = n at *
  by_cases c1 : (key.size : Int) < 1
  · have HR : Hid (2 = Z) := by have z := hZ.out; rw [if_pos (.inl (by omega))] at z; exact z
    clear hZ C
    go_enter Tryz.func63, Tryz.ntmps63
    go_wp2_with fail
    go_ret
    exact ⟨ret_int HR.out, HB.out⟩
  by_cases c2 : (500 : Int) < key.size
  · have HR : Hid (2 = Z) := by have z := hZ.out; rw [if_pos (.inr (by omega))] at z; exact z
    clear hZ C
    go_enter Tryz.func63, Tryz.ntmps63
    go_wp2_with fail
    go_ret
    exact ⟨ret_int HR.out, HB.out⟩
  have HR : Hid (rq = Z) := by have z := hZ.out; rw [if_neg (by omega)] at z; exact z
  clear hZ
  go_enter Tryz.func63, Tryz.ntmps63
  go_wp2_with fail
  refine C.mono ?_
  rintro e w1 ⟨rfl, hb1⟩
  have HB1 : Hid (Below w.heap.size w w1) := HB.out.trans (hb1.mono HB.out.size)
  clear hb1 C HB
  go_wp2_with fail
  go_ret
  exact ⟨ret_int HR.out, HB1.out⟩
set_option maxHeartbeats 2000000 in
theorem waiter_any (w : World) (y : Wr) :
    Calls Tryz.prog 49 #[.agg #[.int .i64 y.rq, .bool y.hd, .int .i64 y.du, .bool y.lt]] w fun e w' => e = .returned (.bool (waitOk y)) ∧ Below w.heap.size w w' := by
  have HB : Hid (Below w.heap.size w (w.alloc (.cells #[.int .i64 y.rq, .bool y.hd, .int .i64 y.du, .bool y.lt] 31))) := (Below.refl _ _).alloc (Nat.le_refl _) _
  have H1 : Hid (∀ x X, Calls Tryz.prog 50 #[.int .i64 x, .int .i64 0, .int .i64 1000000000000000] X fun r w' => r = .returned (.bool (timeB x)) ∧ w' = X) := within_time
  have H2 : Hid (∀ x X, Calls Tryz.prog 55 #[.int .i64 x] X fun r w' => r = .returned (.bool (timeB x)) ∧ w' = X) := isTime_all
  obtain ⟨rq, hd, du, lt⟩ := y
  simp only [waitOk] at HB ⊢
  obtain ⟨Z, hZ⟩ : ∃ Z, Hid ((timeB rq && timeB du) = Z) := ⟨_, rfl⟩
  rw [hZ.out]
  go_enter Tryz.func49, Tryz.ntmps49
  go_wp2_with fail
  refine (H1.out _ _).mono ?_
  rintro z w1 ⟨rfl, rfl⟩
  generalize timeB rq = t1 at *
  cases t1
  · have HR : Hid (false = Z) := hZ.out
    clear hZ
    go_wp2_with fail
    go_ret
    exact ⟨ret_bool HR.out, HB.out⟩
  · go_wp2_with fail
    refine (H2.out _ _).mono ?_
    rintro z w1 ⟨rfl, rfl⟩
    generalize timeB du = t2 at *
    have HR : Hid (t2 = Z) := by have z := hZ.out; rw [Bool.true_and] at z; exact z
    clear hZ
    go_wp2_with fail
    go_ret
    exact ⟨ret_bool HR.out, HB.out⟩
set_option maxHeartbeats 2000000 in
theorem noWaiter_any (w : World) (y : Wr) :
    Calls Tryz.prog 66 #[.agg #[.int .i64 y.rq, .bool y.hd, .int .i64 y.du, .bool y.lt]] w fun e w' => e = .returned (.bool (!waitOk y)) ∧ Below w.heap.size w w' := by
  have HB : Hid (Below w.heap.size w (w.alloc (.cells #[.int .i64 y.rq, .bool y.hd, .int .i64 y.du, .bool y.lt] 31))) := (Below.refl _ _).alloc (Nat.le_refl _) _
  have C := waiter_any (w.alloc (.cells #[.int .i64 y.rq, .bool y.hd, .int .i64 y.du, .bool y.lt] 31)) y
  generalize waitOk y = ok at *
  obtain ⟨rq, hd, du, lt⟩ := y
  simp only at HB C ⊢
  go_enter Tryz.func66, Tryz.ntmps66
  go_wp2_with fail
  refine C.mono ?_
  rintro z w1 ⟨rfl, hb1⟩
  have HB1 : Hid (Below w.heap.size w w1) := HB.out.trans (hb1.mono HB.out.size)
  clear hb1 C HB
  go_wp2_with fail
  go_ret
  exact ⟨rfl, HB1.out⟩
theorem predNoW (w : World) : PredR w 66 #[] (fun r => !waitOk r) := ⟨enters_of Tryz.func66 (by kernel_rfl) rfl, fun X _ r => noWaiter_any X r⟩
theorem any_not_all (l : List Wr) : l.any (fun r => !waitOk r) = !allOk l := by
  unfold allOk
  induction l with
  | nil => rfl
  | cons x l ih => rw [List.any_cons, List.all_cons, ih, Bool.not_and]
end Go.Proofs.YtgejegmilkmiiaaGreatDoor
/-
  The fault of a flight, by the program.
-/
namespace Go.Proofs.YtgejegmilkmiiaaGreatDoor
open Go.ChangeShapes Go.WideShapes Go.ChangeAt Go.RowKit Go.Sort
theorem flC_asked {t : Bool} {ks : Nat} {rq : Int} {ot : Bool} {du : Int} {n : Nat} {ok nd : Bool} (ht : t = true) : flC5 t ks rq ot du n ok nd = if asC ks rq ≠ 0 then asC ks rq else if (!ot && decide (du ≠ 0)) = true then 8 else if 10 < n then 2 else if ok = false then 3 else if nd = false then 6 else 0 := by
  subst ht
  unfold flC5 asC
  rw [if_neg (by decide)]
  by_cases h : ks < 1 ∨ 500 < ks
  · rw [if_pos h, if_pos h, if_pos (by decide)]
  · rw [if_neg h, if_neg h]
    by_cases h2 : rq ≠ 0
    · rw [if_pos h2, if_pos h2]
    · rw [if_neg h2, if_neg h2]
      have e : (ot = false ∧ du ≠ 0) = ((!ot && decide (du ≠ 0)) = true) := by simp
      simp only [e]
theorem FlsIn.one {w : World} {x : Fl} {r : FlR} (h : FlIn w x r) : FlsIn (w.alloc (.cells #[.int .i64 x.id, .string x.key, .bool x.bk, .bool x.ot, .int .i64 x.du, .bool x.dm, .string x.m, .string x.h, .string x.p, .slice r.ha x.hs.length r.hc, .slice r.wa x.ws.length r.wc] 29)) (some ⟨w.heap.size, 0, none⟩) [(x, r)] := by
  refine .inr ⟨w.heap.size, 0, rfl, fun i q hq => ?_⟩
  match i, hq with
  | 0, hq =>
    obtain rfl := Option.some.inj (show some (x, r) = some q from hq)
    refine ⟨fun j hj => ?_, h.keep ((Below.refl _ _).alloc (Nat.le_refl _) _)⟩
    rw [World.cell?_alloc_mark]
    match j, hj with
    | 0, _ => rfl
    | 1, _ => rfl
    | 2, _ => rfl
    | 3, _ => rfl
    | 4, _ => rfl
    | 5, _ => rfl
    | 6, _ => rfl
    | 7, _ => rfl
    | 8, _ => rfl
    | 9, _ => rfl
    | 10, _ => rfl
  | i + 1, hq => simp at hq
set_option maxRecDepth 100000 in
set_option maxHeartbeats 16000000 in
theorem implFl_any (E : Errs) (w : World) (x : Fl) (r : FlR) (hf : FlFit x) (hset : SetIs w) (hE : ErrsIs w E) (hi : FlIn w x r) :
    Calls Tryz.prog 18 #[.agg #[.int .i64 x.id, .string x.key, .bool x.bk, .bool x.ot, .int .i64 x.du, .bool x.dm, .string x.m, .string x.h, .string x.p, .slice r.ha x.hs.length r.hc, .slice r.wa x.ws.length r.wc]] w fun e w' => e = .returned (.int .i64 (flC x)) ∧ Below w.heap.size w w' := by
  obtain ⟨W, hW⟩ : ∃ W, W = w.alloc (.cells #[.int .i64 x.id, .string x.key, .bool x.bk, .bool x.ot, .int .i64 x.du, .bool x.dm, .string x.m, .string x.h, .string x.p, .slice r.ha x.hs.length r.hc, .slice r.wa x.ws.length r.wc] 29) := ⟨_, rfl⟩
  have HW : Hid (W = w.alloc (.cells #[.int .i64 x.id, .string x.key, .bool x.bk, .bool x.ot, .int .i64 x.du, .bool x.dm, .string x.m, .string x.h, .string x.p, .slice r.ha x.hs.length r.hc, .slice r.wa x.ws.length r.wc] 29)) := hW
  have B0 : Hid (Below w.heap.size w W) := by show Below _ _ _; rw [hW]; exact (Below.refl _ _).alloc (Nat.le_refl _) _
  have HE0 : Hid (∀ X, Below W.heap.size W X → E11 X w.heap.size (.int .i64 x.id) (.string x.key) (.bool x.bk) (.bool x.ot) (.int .i64 x.du) (.bool x.dm) (.string x.m) (.string x.h) (.string x.p) (.slice r.ha x.hs.length r.hc) (.slice r.wa x.ws.length r.wc)) := fun X hX => by
    have := E11.new w (.int .i64 x.id) (.string x.key) (.bool x.bk) (.bool x.ot) (.int .i64 x.du) (.bool x.dm) (.string x.m) (.string x.h) (.string x.p) (.slice r.ha x.hs.length r.hc) (.slice r.wa x.ws.length r.wc) 29
    rw [← hW] at this
    exact this.keep hX
  have HT : Hid (∀ X, Calls Tryz.prog 51 #[.agg #[.int .i64 x.id, .string x.key, .bool x.bk, .bool x.ot, .int .i64 x.du, .bool x.dm, .string x.m, .string x.h, .string x.p, .slice r.ha x.hs.length r.hc, .slice r.wa x.ws.length r.wc]] X fun e w' => e = .returned (.agg #[.string x.key, .string x.m, .string x.h, .string x.p, .slice r.ha x.hs.length r.hc, .int .i64 x.id, .bool x.bk, .bool x.ot, .int .i64 x.du, .bool x.dm, .slice r.wa x.ws.length r.wc]) ∧ Below X.heap.size X w') := fun X => trip_any X x r
  have HIB : Hid (∀ X, Calls Tryz.prog 62 #[.agg #[.int .i64 x.id, .bool x.bk, .bool x.ot, .int .i64 x.du, .bool x.dm]] X fun e w' => e = .returned (.bool (timeB x.id && timeB x.du)) ∧ Below X.heap.size X w') := fun X => inBounds_any X _ _ _ _ _
  have HDU : Hid (∀ X, Calls Tryz.prog 64 #[.agg #[.int .i64 x.id, .bool x.bk, .bool x.ot, .int .i64 x.du, .bool x.dm]] X fun e w' => e = .returned (.bool (!x.ot && decide (x.du ≠ 0))) ∧ Below X.heap.size X w') := fun X => dueUnsent_any X _ _ _ _ _
  have HAF : Hid (∀ X, Below w.heap.size w X → Calls Tryz.prog 63 #[.agg #[.string x.key, .string x.m, .string x.h, .string x.p, .slice r.ha x.hs.length r.hc]] X fun e w' => e = .returned (.int .i64 (asC x.key.size (reqC x.m x.h x.p x.hs))) ∧ Below X.heap.size X w') := fun X hX => askedFault_any E X _ _ _ _ _ _ _ hf.h hi.hc hf.p hf.key (hset.below hX) (hE.below hX) (hi.h.keep hX)
  have HCF : Hid (∀ X, Below w.heap.size w X → Calls Tryz.prog 65 #[.slice r.wa x.ws.length r.wc, .func (.func 66) #[] #[]] X fun e w' => e = .returned (.bool (!allOk x.ws)) ∧ Below X.heap.size X w') := fun X hX => by
    have z := containsWr_any X 66 #[] (fun r => !waitOk r) r.wa r.wc x.ws hf.w (hi.k.keep hX) (predNoW X)
    rw [any_not_all] at z
    exact z
  have HAP : Hid (timeB x.id = true → x.ws.length ≤ 10 → allOk x.ws = true → ∀ X, Below w.heap.size w X → Calls Tryz.prog 67 #[.slice (some ⟨X.heap.size, 0, none⟩) 1 1] (X.alloc (.cells #[.int .i64 x.id, .string x.key, .bool x.bk, .bool x.ot, .int .i64 x.du, .bool x.dm, .string x.m, .string x.h, .string x.p, .slice r.ha x.hs.length r.hc, .slice r.wa x.ws.length r.wc] 29)) fun e w' => e = .returned (.bool (nodR x.ws)) ∧ Below X.heap.size X w') := fun h1 h2 h3 X hX => by
    have al : Below X.heap.size X (X.alloc (.cells #[.int .i64 x.id, .string x.key, .bool x.bk, .bool x.ot, .int .i64 x.du, .bool x.dm, .string x.m, .string x.h, .string x.p, .slice r.ha x.hs.length r.hc, .slice r.wa x.ws.length r.wc] 29)) := (Below.refl _ _).alloc (Nat.le_refl _) _
    have z := areApart_any (X.alloc (.cells #[.int .i64 x.id, .string x.key, .bool x.bk, .bool x.ot, .int .i64 x.du, .bool x.dm, .string x.m, .string x.h, .string x.p, .slice r.ha x.hs.length r.hc, .slice r.wa x.ws.length r.wc] 29)) (some ⟨X.heap.size, 0, none⟩) 1 [(x, r)] (by simp) (fun q hq => by obtain rfl := List.mem_singleton.1 hq; exact ⟨h2, sgsOk_of h1 hf.key h3⟩) (FlsIn.one (hi.keep hX))
    rw [show ([(x, r)] : List (Fl × FlR)).map Prod.fst = [x] from rfl, tab_one] at z
    exact z.mono fun e w' ⟨q1, q2⟩ => ⟨q1, al.trans (q2.mono al.size)⟩
  obtain ⟨Z, hZ⟩ : ∃ Z, Hid (flC x = Z) := ⟨_, rfl⟩
  rw [hZ.out]
  unfold flC at hZ
  clear hW hi hf hset hE
  obtain ⟨id, key, bk, ot, du, dm, m, h, p, hs, ws⟩ := x
  obtain ⟨ha, hc, wa, wc⟩ := r
  simp only at HW HE0 HT HIB HDU HAF HCF HAP hZ ⊢
  generalize reqC m h p hs = rq at *
  generalize hs.length = hl at *
  generalize ws.length = wn at *
  go_enter Tryz.func18, Tryz.ntmps18
  go_wp2_with fail
  rw [← HW.out]
  clear HW
  refine (HT.out _).mono ?_
  rintro z0 w1 ⟨rfl, hb1⟩
  obtain ⟨V, hV⟩ : ∃ V, V = w1.alloc (.cells #[.string key, .string m, .string h, .string p, .slice ha hl hc, .int .i64 id, .bool bk, .bool ot, .int .i64 du, .bool dm, .slice wa wn wc] 93) := ⟨_, rfl⟩
  have HV : Hid (V = w1.alloc (.cells #[.string key, .string m, .string h, .string p, .slice ha hl hc, .int .i64 id, .bool bk, .bool ot, .int .i64 du, .bool dm, .slice wa wn wc] 93)) := hV
  have HE : Hid (∀ X, Below V.heap.size V X → Below w.heap.size w X ∧ E11 X w.heap.size (.int .i64 id) (.string key) (.bool bk) (.bool ot) (.int .i64 du) (.bool dm) (.string m) (.string h) (.string p) (.slice ha hl hc) (.slice wa wn wc) ∧ E11 X w1.heap.size (.string key) (.string m) (.string h) (.string p) (.slice ha hl hc) (.int .i64 id) (.bool bk) (.bool ot) (.int .i64 du) (.bool dm) (.slice wa wn wc)) := fun X hX => by
    have al : Below w1.heap.size w1 V := by rw [hV]; exact (Below.refl _ _).alloc (Nat.le_refl _) _
    have b1 := hb1.trans (al.mono hb1.size)
    have b2 := b1.trans (hX.mono b1.size)
    have e := E11.new w1 (.string key) (.string m) (.string h) (.string p) (.slice ha hl hc) (.int .i64 id) (.bool bk) (.bool ot) (.int .i64 du) (.bool dm) (.slice wa wn wc) 93
    rw [← hV] at e
    exact ⟨B0.out.trans (b2.mono B0.out.size), HE0.out X b2, e.keep hX⟩
  clear hb1 hV HE0 B0 HT
  go_upto_region 2 with fail
  rw [← HV.out]
  clear HV
  generalize w1.heap.size = M at *
  clear w1
  obtain ⟨e0, e1, e2, e3, e4, e5, e6, e7, e8, e9, e10, _, _⟩ := (HE.out V (Below.refl _ _)).2.2
  go_wp2_with fail
  refine (HIB.out _).mono ?_
  rintro z0 w2 ⟨rfl, hb2⟩
  have H2 : Hid (∀ X, Below w2.heap.size w2 X → Below w.heap.size w X ∧ E11 X w.heap.size (.int .i64 id) (.string key) (.bool bk) (.bool ot) (.int .i64 du) (.bool dm) (.string m) (.string h) (.string p) (.slice ha hl hc) (.slice wa wn wc) ∧ E11 X M (.string key) (.string m) (.string h) (.string p) (.slice ha hl hc) (.int .i64 id) (.bool bk) (.bool ot) (.int .i64 du) (.bool dm) (.slice wa wn wc)) := fun X hX => HE.out X (hb2.trans (hX.mono hb2.size))
  clear hb2 HE e0 e1 e2 e3 e4 e5 e6 e7 e8 e9 e10
  obtain ⟨t, ht⟩ : ∃ t, Hid ((timeB id && timeB du) = t) := ⟨_, rfl⟩
  rw [ht.out] at hZ ⊢
  cases t
  · have HR : Hid (3 = Z) := hZ.out
    have BB := (H2.out w2 (Below.refl _ _)).1
    clear hZ
    go_wp2_with fail
    go_ret
    exact ⟨ret_int HR.out, BB⟩
  rw [flC_asked rfl] at hZ
  have hid1 : timeB id = true := by have z := ht.out; rw [Bool.and_eq_true] at z; exact z.1
  have HAP1 := fun a b => HAP.out hid1 a b
  have HAP2 : Hid (wn ≤ 10 → allOk ws = true → ∀ X, Below w.heap.size w X → Calls Tryz.prog 67 #[.slice (some ⟨X.heap.size, 0, none⟩) 1 1] (X.alloc (.cells #[.int .i64 id, .string key, .bool bk, .bool ot, .int .i64 du, .bool dm, .string m, .string h, .string p, .slice ha hl hc, .slice wa wn wc] 29)) fun e w' => e = .returned (.bool (nodR ws)) ∧ Below X.heap.size X w') := HAP1
  clear ht hid1 HAP HAP1
  obtain ⟨e0, e1, e2, e3, e4, e5, e6, e7, e8, e9, e10, _, _⟩ := (H2.out w2 (Below.refl _ _)).2.2
  go_wp2_with fail
  refine (HAF.out _ (H2.out w2 (Below.refl _ _)).1).mono ?_
  rintro z0 w3 ⟨rfl, hb3⟩
  have H3 : Hid (∀ X, Below w3.heap.size w3 X → Below w.heap.size w X ∧ E11 X w.heap.size (.int .i64 id) (.string key) (.bool bk) (.bool ot) (.int .i64 du) (.bool dm) (.string m) (.string h) (.string p) (.slice ha hl hc) (.slice wa wn wc) ∧ E11 X M (.string key) (.string m) (.string h) (.string p) (.slice ha hl hc) (.int .i64 id) (.bool bk) (.bool ot) (.int .i64 du) (.bool dm) (.slice wa wn wc)) := fun X hX => H2.out X (hb3.trans (hX.mono hb3.size))
  clear hb3 H2 HAF e0 e1 e2 e3 e4 e5 e6 e7 e8 e9 e10
  generalize asC key.size rq = ac at *
  by_cases c3 : ac = 0
  rotate_left
  · have HR : Hid (ac = Z) := by have z := hZ.out; rw [if_pos c3] at z; exact z
    have c3' : (ac != 0) = true := by simpa using c3
    have BB := (H3.out w3 (Below.refl _ _)).1
    clear hZ c3
    go_wp2_with fail
    go_ret
    exact ⟨ret_int HR.out, BB⟩
  subst c3
  rw [if_neg (by simp)] at hZ
  obtain ⟨e0, e1, e2, e3, e4, e5, e6, e7, e8, e9, e10, _, _⟩ := (H3.out w3 (Below.refl _ _)).2.2
  go_wp2_with fail
  refine (HDU.out _).mono ?_
  rintro z0 w4 ⟨rfl, hb4⟩
  have H4 : Hid (∀ X, Below w4.heap.size w4 X → Below w.heap.size w X ∧ E11 X w.heap.size (.int .i64 id) (.string key) (.bool bk) (.bool ot) (.int .i64 du) (.bool dm) (.string m) (.string h) (.string p) (.slice ha hl hc) (.slice wa wn wc) ∧ E11 X M (.string key) (.string m) (.string h) (.string p) (.slice ha hl hc) (.int .i64 id) (.bool bk) (.bool ot) (.int .i64 du) (.bool dm) (.slice wa wn wc)) := fun X hX => H3.out X (hb4.trans (hX.mono hb4.size))
  clear hb4 H3 HDU HIB e0 e1 e2 e3 e4 e5 e6 e7 e8 e9 e10
  generalize (!ot && decide (du ≠ 0)) = dn at *
  cases dn
  rotate_left
  · have HR : Hid (8 = Z) := hZ.out
    have BB := (H4.out w4 (Below.refl _ _)).1
    clear hZ
    go_wp2_with fail
    go_ret
    exact ⟨ret_int HR.out, BB⟩
  rw [if_neg (by decide)] at hZ
  obtain ⟨e0, e1, e2, e3, e4, e5, e6, e7, e8, e9, e10, _, _⟩ := (H4.out w4 (Below.refl _ _)).2.2
  by_cases c6 : (10 : Int) < wn
  · have HR : Hid (2 = Z) := by have z := hZ.out; rw [if_pos (by omega)] at z; exact z
    have BB := (H4.out w4 (Below.refl _ _)).1
    clear hZ
    go_wp2_with fail
    go_ret
    exact ⟨ret_int HR.out, BB⟩
  rw [if_neg (by omega)] at hZ
  go_wp2_with fail
  refine (HCF.out _ (H4.out w4 (Below.refl _ _)).1).mono ?_
  rintro z0 w5 ⟨rfl, hb5⟩
  have H5 : Hid (∀ X, Below w5.heap.size w5 X → Below w.heap.size w X ∧ E11 X w.heap.size (.int .i64 id) (.string key) (.bool bk) (.bool ot) (.int .i64 du) (.bool dm) (.string m) (.string h) (.string p) (.slice ha hl hc) (.slice wa wn wc) ∧ E11 X M (.string key) (.string m) (.string h) (.string p) (.slice ha hl hc) (.int .i64 id) (.bool bk) (.bool ot) (.int .i64 du) (.bool dm) (.slice wa wn wc)) := fun X hX => H4.out X (hb5.trans (hX.mono hb5.size))
  clear hb5 H4 HCF e0 e1 e2 e3 e4 e5 e6 e7 e8 e9 e10
  have HAP3 := fun b => HAP2.out (by omega) b
  generalize allOk ws = ok at *
  cases ok
  · have HR : Hid (3 = Z) := hZ.out
    have BB := (H5.out w5 (Below.refl _ _)).1
    clear hZ HAP3 HAP2
    go_wp2_with fail
    go_ret
    exact ⟨ret_int HR.out, BB⟩
  rw [if_neg (by decide)] at hZ
  have HA := HAP3 rfl w5 (H5.out w5 (Below.refl _ _)).1
  have HA2 : Hid (Calls Tryz.prog 67 #[.slice (some ⟨w5.heap.size, 0, none⟩) 1 1] (w5.alloc (.cells #[.int .i64 id, .string key, .bool bk, .bool ot, .int .i64 du, .bool dm, .string m, .string h, .string p, .slice ha hl hc, .slice wa wn wc] 29)) fun e w' => e = .returned (.bool (nodR ws)) ∧ Below w5.heap.size w5 w') := HA
  clear HAP3 HAP2 HA
  obtain ⟨e0, e1, e2, e3, e4, e5, e6, e7, e8, e9, e10, _, _⟩ := (H5.out w5 (Below.refl _ _)).2.1
  go_wp2_with fail
  refine HA2.out.mono ?_
  rintro z0 w6 ⟨rfl, hb6⟩
  have B6 : Hid (Below w.heap.size w w6) := (H5.out w6 hb6).1
  clear hb6 H5 HA2 e0 e1 e2 e3 e4 e5 e6 e7 e8 e9 e10
  generalize nodR ws = nd at *
  cases nd
  · have HR : Hid (6 = Z) := hZ.out
    clear hZ
    go_wp2_with fail
    go_ret
    exact ⟨ret_int HR.out, B6.out⟩
  · have HR : Hid (0 = Z) := hZ.out
    clear hZ
    go_wp2_with fail
    go_ret
    exact ⟨ret_int HR.out, B6.out⟩
end Go.Proofs.YtgejegmilkmiiaaGreatDoor
/-
  The fault of a flight, by the model.
-/
namespace Go.Proofs.YtgejegmilkmiiaaGreatDoor
open Go.ChangeShapes Go.WideShapes Go.ChangeAt Go.RowKit Go.Sort
set_option maxRecDepth 100000 in
set_option maxHeartbeats 8000000 in
theorem l12Twice_any (w : World) (a : Option Addr) (cap : Nat) (l : List Wr) (hl : l.length ≤ 1048576) (hi : WrIn w a l) :
    Calls Tryz.prog 69 #[.slice a l.length cap] w fun e w' => e = .returned (.bool (!nodR l)) ∧ Below w.heap.size w w' := by
  have HI : Hid (WrIn w a l) := hi
  clear hi
  generalize hn : l.length = n at *
  have HN : Hid (l.length = n) := hn
  clear hn
  go_enter Tryz.func69, Tryz.ntmps69
  go_wp2_with fail
  go_loopw [3] (fun i wr => ∃ k : Nat, k ≤ n ∧ i = .int .i64 k ∧ (∀ (i j : Nat) x y, i < k → j < i → l[i]? = some x → l[j]? = some y → x.rq ≠ y.rq) ∧ Below w.heap.size w wr) (fun i _ => n - (intOf i).toNat)
  case atStart => exact ⟨0, Nat.zero_le _, rfl, fun i j x y h => absurd h (by omega), Below.refl _ _⟩
  case round =>
    obtain ⟨k, hk, rfl, hno, hb⟩ := hrel
    have HNO : Hid (∀ (i j : Nat) x y, i < k → j < i → l[i]? = some x → l[j]? = some y → x.rq ≠ y.rq) := hno
    have HB : Hid (Below w.heap.size w wr) := hb
    clear hno hb
    by_cases hlt : k < n
    · obtain ⟨x, hx⟩ : ∃ r, l[k]? = some r := ⟨l[k]'(by have := HN.out; omega), List.getElem?_eq_getElem _⟩
      have HX : Hid (l[k]? = some x) := hx
      clear hx
      have g : (k : Int) < n := by omega
      have g0 : (0 : Int) ≤ k := by omega
      go_wp2_with fail
      obtain ⟨wo, hwo⟩ : ∃ wo : World, wo = wr := ⟨_, rfl⟩
      subst hwo
      go_loopw [4] (fun i wr => ∃ m : Nat, m ≤ k ∧ i = .int .i64 m ∧ (∀ (j : Nat) y, j < m → l[j]? = some y → x.rq ≠ y.rq) ∧ Below w.heap.size w wr) (fun i _ => k - (intOf i).toNat)
      case atStart => exact ⟨0, Nat.zero_le _, rfl, fun j y h => absurd h (by omega), HB.out⟩
      case round =>
        obtain ⟨m, hm, rfl, hnj, hb⟩ := hrel
        have HNJ : Hid (∀ (j : Nat) y, j < m → l[j]? = some y → x.rq ≠ y.rq) := hnj
        clear hnj HB
        by_cases hlm : m < k
        · obtain ⟨y, hy⟩ : ∃ r, l[m]? = some r := ⟨l[m]'(by have := HN.out; omega), List.getElem?_eq_getElem _⟩
          have hx := HX.out
          rcases HI.out with e | ⟨b', off', er, hat⟩
          · rw [e] at hy; simp at hy
          obtain ⟨p0, p1, p2, p3⟩ := (hat.keep hb) k x hx
          obtain ⟨q0, q1, q2, q3⟩ := (hat.keep hb) m y hy
          rw [er]
          have x0 := cell_regrown p0
          have y0 := cell_regrown q0
          have gm : (m : Int) < n := by omega
          have gk : (m : Int) < k := by omega
          have gm0 : (0 : Int) ≤ m := by omega
          have HY : Hid (l[m]? = some y) := hy
          clear hx hy hat p0 p1 p2 p3 q0 q1 q2 q3
          obtain ⟨xr, xh, xd, xl⟩ := x
          obtain ⟨yr, yh, yd, yl⟩ := y
          simp only at x0 y0
          by_cases he : xr = yr
          · have HE : Hid (nodR l = false) := nodR_no hlm HX.out HY.out he
            subst he
            go_wp2_with fail
            refine wp_region_quiet_below (by kernel_rfl) (by kernel_rfl) ?_
            repeat (go_big_quiet_step (fail))
            refine wpQuiet_nil ?_
            intro w2 hw2
            have hbb : Below w.heap.size w w2 := by
              obtain ⟨⟨d, os⟩, rfl⟩ := hw2
              exact hb.trans ((below_regrown wr d os).mono hb.size)
            clear x0 y0 hw2 hb
            go_wp2_with fail
            go_ret
            exact ⟨by rw [HE.out]; rfl, hbb⟩
          · have he2 : (xr == yr) = false := by simpa using he
            have HN2 : Hid (∀ (j : Nat) y, j < m + 1 → l[j]? = some y → xr ≠ y.rq) := fun j z hj hz => by
              by_cases e : j = m
              · subst e
                rw [HY.out] at hz
                obtain rfl := Option.some.inj hz
                exact he
              · exact HNJ.out j z (by omega) hz
            clear he
            go_wp2_with fail
            refine wp_region_quiet_below (by kernel_rfl) (by kernel_rfl) ?_
            repeat (go_big_quiet_step (fail))
            refine wpQuiet_nil ?_
            intro w2 hw2
            have hbb : Below w.heap.size w w2 := by
              obtain ⟨⟨d, os⟩, rfl⟩ := hw2
              exact hb.trans ((below_regrown wr d os).mono hb.size)
            clear x0 y0 hw2 hb
            go_wp2_with fail
            go_roundw
            case rel => exact ⟨m + 1, by omega, by go_num, HN2.out, hbb⟩
            case measure => simp [intOf]; omega
        · have HF : Hid (∀ (i j : Nat) x y, i < k + 1 → j < i → l[i]? = some x → l[j]? = some y → x.rq ≠ y.rq) := fun i j u v hi hj hu hv => by
            by_cases e : i = k
            · subst e
              rw [HX.out] at hu
              obtain rfl := Option.some.inj hu
              exact HNJ.out j v (by omega) hv
            · exact HNO.out i j u v (by omega) hj hu hv
          clear HNJ
          go_wp2_with fail
          go_roundw
          case rel => exact ⟨k + 1, by omega, by go_num, HF.out, hb⟩
          case measure => simp [intOf]; omega
    · have HE : Hid (nodR l = true) := (nodR_iff l).2 fun i j x y hj hx hy => HNO.out i j x y (by have := (List.getElem?_eq_some_iff.1 hx).1; have := HN.out; omega) hj hx hy
      clear HNO
      go_wp2_with fail
      go_ret
      exact ⟨by rw [HE.out]; rfl, HB.out⟩
set_option maxRecDepth 100000 in
set_option maxHeartbeats 8000000 in
theorem specFl_any (w : World) (x : Fl) (r : FlR) (hf : FlFit x) (hi : FlIn w x r) :
    Calls Tryz.prog 19 #[.agg #[.int .i64 x.id, .string x.key, .bool x.bk, .bool x.ot, .int .i64 x.du, .bool x.dm, .string x.m, .string x.h, .string x.p, .slice r.ha x.hs.length r.hc, .slice r.wa x.ws.length r.wc]] w fun e w' => e = .returned (.int .i64 (flC x)) ∧ Below w.heap.size w w' := by
  obtain ⟨W, hW⟩ : ∃ W, W = w.alloc (.cells #[.int .i64 x.id, .string x.key, .bool x.bk, .bool x.ot, .int .i64 x.du, .bool x.dm, .string x.m, .string x.h, .string x.p, .slice r.ha x.hs.length r.hc, .slice r.wa x.ws.length r.wc] 29) := ⟨_, rfl⟩
  have HW : Hid (W = w.alloc (.cells #[.int .i64 x.id, .string x.key, .bool x.bk, .bool x.ot, .int .i64 x.du, .bool x.dm, .string x.m, .string x.h, .string x.p, .slice r.ha x.hs.length r.hc, .slice r.wa x.ws.length r.wc] 29)) := hW
  have B0 : Hid (Below w.heap.size w W) := by show Below _ _ _; rw [hW]; exact (Below.refl _ _).alloc (Nat.le_refl _) _
  have HE : Hid (∀ X, Below W.heap.size W X → E11 X w.heap.size (.int .i64 x.id) (.string x.key) (.bool x.bk) (.bool x.ot) (.int .i64 x.du) (.bool x.dm) (.string x.m) (.string x.h) (.string x.p) (.slice r.ha x.hs.length r.hc) (.slice r.wa x.ws.length r.wc)) := fun X hX => by
    have := E11.new w (.int .i64 x.id) (.string x.key) (.bool x.bk) (.bool x.ot) (.int .i64 x.du) (.bool x.dm) (.string x.m) (.string x.h) (.string x.p) (.slice r.ha x.hs.length r.hc) (.slice r.wa x.ws.length r.wc) 29
    rw [← hW] at this
    exact this.keep hX
  have HT : Hid (∀ (z : Int) X, Calls Tryz.prog 57 #[.int .i64 z] X fun e w' => e = .returned (.bool (timeB z)) ∧ w' = X) := fun z X => l1Time_all z X
  have HQ : Hid (∀ X, Below w.heap.size w X → Calls Tryz.prog 68 #[.agg #[.string x.m, .string x.h, .string x.p, .slice r.ha x.hs.length r.hc]] X fun e w' => e = .returned (.int .i64 (reqC x.m x.h x.p x.hs)) ∧ Below X.heap.size X w') := fun X hX => specReq_any X _ _ _ _ _ _ hf.h (hi.h.keep hX)
  have HTW : Hid (∀ X, Below w.heap.size w X → Calls Tryz.prog 69 #[.slice r.wa x.ws.length r.wc] X fun e w' => e = .returned (.bool (!nodR x.ws)) ∧ Below X.heap.size X w') := fun X hX => l12Twice_any X _ _ _ hf.w (hi.k.keep hX)
  have HWI : Hid (∀ X, Below w.heap.size w X → WrIn X r.wa x.ws) := fun X hX => hi.k.keep hX
  obtain ⟨Z, hZ⟩ : ∃ Z, Hid (flC x = Z) := ⟨_, rfl⟩
  rw [hZ.out]
  unfold flC at hZ
  have hks : x.key.size ≤ 1048576 := hf.key
  clear hW hi hf
  obtain ⟨id, key, bk, ot, du, dm, m, h, p, hs, ws⟩ := x
  obtain ⟨ha, hc, wa, wc⟩ := r
  simp only at HW HE HQ HTW HWI hZ hks ⊢
  generalize reqC m h p hs = rq at *
  generalize hs.length = hl at *
  generalize hn : ws.length = wn at *
  have HN : Hid (ws.length = wn) := hn
  clear hn
  go_enter Tryz.func19, Tryz.ntmps19
  go_wp2_with fail
  rw [← HW.out]
  clear HW
  obtain ⟨e0, e1, e2, e3, e4, e5, e6, e7, e8, e9, e10, _, _⟩ := HE.out W (Below.refl _ _)
  refine (HT.out _ _).mono ?_
  rintro z0 w1 ⟨rfl, rfl⟩
  generalize timeB id = t1 at *
  cases t1
  · have HR : Hid (3 = Z) := hZ.out
    clear hZ
    go_wp2_with fail
    go_ret
    exact ⟨ret_int HR.out, B0.out⟩
  go_wp2_with fail
  refine (HT.out _ _).mono ?_
  rintro z0 w2 ⟨rfl, rfl⟩
  generalize timeB du = t2 at *
  cases t2
  · have HR : Hid (3 = Z) := hZ.out
    clear hZ
    go_wp2_with fail
    go_ret
    exact ⟨ret_int HR.out, B0.out⟩
  rw [Bool.and_true, flC5, if_neg (by decide)] at hZ
  by_cases c1 : (key.size : Int) < 1
  · have HR : Hid (2 = Z) := by have z := hZ.out; rw [if_pos (.inl (by omega))] at z; exact z
    clear hZ
    go_wp2_with fail
    go_ret
    exact ⟨ret_int HR.out, B0.out⟩
  by_cases c2 : (500 : Int) < key.size
  · have HR : Hid (2 = Z) := by have z := hZ.out; rw [if_pos (.inr (by omega))] at z; exact z
    clear hZ
    go_wp2_with fail
    go_ret
    exact ⟨ret_int HR.out, B0.out⟩
  rw [if_neg (by omega)] at hZ
  go_wp2_with fail
  refine (HQ.out _ B0.out).mono ?_
  rintro z0 w3 ⟨rfl, hb3⟩
  have B3 : Hid (Below w.heap.size w w3) := B0.out.trans (hb3.mono B0.out.size)
  have HE3 : Hid (∀ X, Below w3.heap.size w3 X → E11 X w.heap.size (.int .i64 id) (.string key) (.bool bk) (.bool ot) (.int .i64 du) (.bool dm) (.string m) (.string h) (.string p) (.slice ha hl hc) (.slice wa wn wc)) := fun X hX => HE.out X (hb3.trans (hX.mono hb3.size))
  clear hb3 e0 e1 e2 e3 e4 e5 e6 e7 e8 e9 e10 HE B0 HQ
  by_cases c3 : rq = 0
  rotate_left
  · have HR : Hid (rq = Z) := by have z := hZ.out; rw [if_pos c3] at z; exact z
    have c3' : (rq != 0) = true := by simpa using c3
    clear hZ c3
    go_wp2_with fail
    go_ret
    exact ⟨ret_int HR.out, B3.out⟩
  subst c3
  rw [if_neg (by simp)] at hZ
  obtain ⟨e0, e1, e2, e3, e4, e5, e6, e7, e8, e9, e10, _, _⟩ := HE3.out w3 (Below.refl _ _)
  by_cases c4 : ot = false ∧ du ≠ 0
  · have HR : Hid (8 = Z) := by have z := hZ.out; rw [if_pos c4] at z; exact z
    obtain ⟨rfl, c5⟩ := c4
    have c5' : (du != 0) = true := by simpa using c5
    clear hZ c5
    go_wp2_with fail
    go_ret
    exact ⟨ret_int HR.out, B3.out⟩
  rw [if_neg c4] at hZ
  go_upto_region 8 with fail
  go_cut [38] from 31 to 37 (fun s38 wx => s38 = .bool false ∧ wx = w3)
  case first =>
    cases ot
    · have c5 : du = 0 := Classical.byContradiction fun h => c4 ⟨rfl, h⟩
      subst c5
      clear c4
      go_wp2_with fail
      go_meet
      exact ⟨rfl, rfl⟩
    · clear c4
      go_wp2_with fail
      go_meet
      exact ⟨rfl, rfl⟩
  case rest =>
  obtain ⟨rfl, rfl⟩ := hcut
  clear c4
  by_cases c6 : (10 : Int) < wn
  · have HR : Hid (2 = Z) := by have z := hZ.out; rw [if_pos (by omega)] at z; exact z
    clear hZ
    go_wp2_with fail
    go_ret
    exact ⟨ret_int HR.out, B3.out⟩
  rw [if_neg (by omega)] at hZ
  go_wp2_with fail
  clear e0 e1 e2 e3 e4 e5 e6 e7 e8 e9 e10
  go_loopw [4] (fun i wr => ∃ k : Nat, k ≤ wn ∧ i = .int .i64 k ∧ (∀ (i : Nat) x, i < k → ws[i]? = some x → waitOk x = true) ∧ Below wc.heap.size wc wr) (fun i _ => wn - (intOf i).toNat)
  case atStart => exact ⟨0, Nat.zero_le _, rfl, fun i x h => absurd h (by omega), Below.refl _ _⟩
  case round =>
    obtain ⟨k, hk, rfl, hno, hb⟩ := hrel
    have HNO : Hid (∀ (i : Nat) x, i < k → ws[i]? = some x → waitOk x = true) := hno
    have HB : Hid (Below wc.heap.size wc wr) := hb
    have BW : Hid (Below w.heap.size w wr) := B3.out.trans (hb.mono B3.out.size)
    obtain ⟨e0, e1, e2, e3, e4, e5, e6, e7, e8, e9, e10, _, _⟩ := HE3.out wr hb
    clear hno hb
    by_cases hlt : k < wn
    · obtain ⟨x, hx⟩ : ∃ r, ws[k]? = some r := ⟨ws[k]'(by have := HN.out; omega), List.getElem?_eq_getElem _⟩
      rcases HWI.out wr BW.out with e | ⟨b', off', er, hat⟩
      · rw [e] at hx; simp at hx
      obtain ⟨p0, p1, p2, p3⟩ := hat k x hx
      rw [er] at e10
      clear er
      have g : (k : Int) < wn := by omega
      have g0 : (0 : Int) ≤ k := by omega
      have HX : Hid (ws[k]? = some x) := hx
      have HSUC : Hid (waitOk x = true → ∀ (i : Nat) y, i < k + 1 → ws[i]? = some y → waitOk y = true) := fun hw i y hi hy => by
        by_cases e : i = k
        · subst e
          rw [HX.out] at hy
          obtain rfl := Option.some.inj hy
          exact hw
        · exact HNO.out i y (by omega) hy
      have HBAD : Hid (waitOk x = false → allOk ws = false) := fun hw => allOk_no HX.out hw
      obtain ⟨xr, xh, xd, xl⟩ := x
      have hwk : waitOk ⟨xr, xh, xd, xl⟩ = (timeB xr && timeB xd) := rfl
      rw [hwk] at HSUC HBAD
      simp only at p0 p1 p2 p3
      clear hx hat hwk
      go_wp2_with fail
      refine (HT.out _ _).mono ?_
      rintro z0 w5 ⟨rfl, rfl⟩
      generalize timeB xr = t3 at *
      cases t3
      · have HR : Hid (3 = Z) := by have z := hZ.out; rw [if_pos (HBAD.out rfl)] at z; exact z
        clear hZ HBAD HSUC
        go_wp2_with fail
        go_ret
        exact ⟨ret_int HR.out, BW.out⟩
      go_wp2_with fail
      refine (HT.out _ _).mono ?_
      rintro z0 w6 ⟨rfl, rfl⟩
      generalize timeB xd = t4 at *
      cases t4
      · have HR : Hid (3 = Z) := by have z := hZ.out; rw [if_pos (HBAD.out rfl)] at z; exact z
        clear hZ HBAD HSUC
        go_wp2_with fail
        go_ret
        exact ⟨ret_int HR.out, BW.out⟩
      have HS2 := HSUC.out rfl
      clear HBAD HSUC
      go_wp2_with fail
      go_roundw
      case rel => exact ⟨k + 1, by omega, by go_num, HS2, HB.out⟩
      case measure => simp [intOf]; omega
    · have hall : allOk ws = true := (allOk_iff ws).2 fun i x hx => HNO.out i x (by have := (List.getElem?_eq_some_iff.1 hx).1; have := HN.out; omega) hx
      rw [hall, if_neg (by decide)] at hZ
      clear HNO hall
      go_wp2_with fail
      refine (HTW.out _ BW.out).mono ?_
      rintro z0 w7 ⟨rfl, hb7⟩
      have B7 : Hid (Below w.heap.size w w7) := BW.out.trans (hb7.mono BW.out.size)
      clear hb7 e0 e1 e2 e3 e4 e5 e6 e7 e8 e9 e10
      generalize nodR ws = nd at *
      cases nd
      · have HR : Hid (6 = Z) := hZ.out
        clear hZ
        go_wp2_with fail
        go_ret
        exact ⟨ret_int HR.out, B7.out⟩
      · have HR : Hid (0 = Z) := hZ.out
        clear hZ
        go_wp2_with fail
        go_ret
        exact ⟨ret_int HR.out, B7.out⟩
end Go.Proofs.YtgejegmilkmiiaaGreatDoor
/-
  Head lines, held against each other by the laws, wherever they lie.
-/
namespace Go.Proofs.YtgejegmilkmiiaaGreatDoor
open Go.ChangeShapes Go.WideShapes Go.ChangeAt Go.RowKit Go.Sort
set_option maxHeartbeats 1000000 in
theorem eqHeaderS_nn (w : World) (a b : Option Addr) (c d : Nat) :
    Calls Tryz.prog 110 #[.slice a 0 c, .slice b 0 d] w fun e w' => e = .returned (.bool true) ∧ Below w.heap.size w w' := by
  go_enter Tryz.func110, Tryz.ntmps110
  go_wp2_with fail
  go_loop [5] (fun i => i = .int .i64 0) (fun _ => 0)
  case atStart => exact rfl
  case round =>
    cases hrel
    go_wp2_with fail
    go_ret
    exact ⟨rfl, Below.refl _ _⟩
theorem eqHeaderS_at (w : World) (a1 a2 : Option Addr) (c1 c2 : Nat) (l : List Hdr) (hl : l.length ≤ 1048576) (h1 : HdsIn w a1 l) (h2 : HdsIn w a2 l) :
    Calls Tryz.prog 110 #[.slice a1 l.length c1, .slice a2 l.length c2] w fun e w' => e = .returned (.bool true) ∧ Below w.heap.size w w' := by
  rcases h1 with rfl | ⟨b, o, rfl, h1⟩
  · exact eqHeaderS_nn w _ _ _ _
  · rcases h2 with rfl | ⟨b2, o2, rfl, h2⟩
    · exact eqHeaderS_nn w _ _ _ _
    · exact eqHeaderS_same w b o b2 o2 c1 c2 l hl h1 h2
end Go.Proofs.YtgejegmilkmiiaaGreatDoor
/-
  Flights, held against each other by the laws.
-/
namespace Go.Proofs.YtgejegmilkmiiaaGreatDoor
open Go.ChangeShapes Go.WideShapes Go.ChangeAt Go.RowKit Go.Sort
set_option maxHeartbeats 4000000 in
theorem eqRequest_in (W : World) (m h p : ByteArray) (h1 h2 : Option Addr) (k1 k2 : Nat) (hs : List Hdr) (hl : hs.length ≤ 1048576) (i1 : HdsIn W h1 hs) (i2 : HdsIn W h2 hs) :
    Calls Tryz.prog 84 #[.agg #[.string m, .string h, .string p, .slice h1 hs.length k1], .agg #[.string m, .string h, .string p, .slice h2 hs.length k2]] W fun e w' => e = .returned (.bool true) ∧ Below W.heap.size W w' := by
  have bW : Below W.heap.size W ((W.alloc (.cells #[.string m, .string h, .string p, .slice h1 hs.length k1] 26)).alloc (.cells #[.string m, .string h, .string p, .slice h2 hs.length k2] 26)) := ((Below.refl _ _).alloc (Nat.le_refl _) _).alloc (by simp) _
  have C := eqHeaderS_at _ h1 h2 k1 k2 hs hl (i1.keep bW) (i2.keep bW)
  have HB : Hid (Below W.heap.size W ((W.alloc (.cells #[.string m, .string h, .string p, .slice h1 hs.length k1] 26)).alloc (.cells #[.string m, .string h, .string p, .slice h2 hs.length k2] 26))) := bW
  clear bW i1 i2 hl
  generalize hs.length = n at *
  go_enter Tryz.func84, Tryz.ntmps84
  go_wp2_with fail
  refine C.mono ?_
  rintro r w1 ⟨rfl, hb1⟩
  have HB1 : Hid (Below W.heap.size W w1) := HB.out.trans (hb1.mono HB.out.size)
  clear hb1 C HB
  go_wp2_with fail
  go_ret
  exact ⟨rfl, HB1.out⟩
set_option maxHeartbeats 8000000 in
theorem eqFlight_same (w : World) (id : Int) (key : ByteArray) (bk ot : Bool) (du : Int) (dm : Bool) (m h p : ByteArray) (h1 h2 : Option Addr) (k1 k2 : Nat) (w1 w2 : Option Addr) (c1 c2 : Nat) (hs : List Hdr) (ws : List Wr) (hhl : hs.length ≤ 1048576) (hwl : ws.length ≤ 1048576) (i1 : HdsIn w h1 hs) (i2 : HdsIn w h2 hs) (j1 : WrIn w w1 ws) (j2 : WrIn w w2 ws) :
    Calls Tryz.prog 31 #[.agg #[.int .i64 id, .string key, .bool bk, .bool ot, .int .i64 du, .bool dm, .string m, .string h, .string p, .slice h1 hs.length k1, .slice w1 ws.length c1], .agg #[.int .i64 id, .string key, .bool bk, .bool ot, .int .i64 du, .bool dm, .string m, .string h, .string p, .slice h2 hs.length k2, .slice w2 ws.length c2]] w fun e w' => e = .returned (.bool true) ∧ Below w.heap.size w w' := by
  have HB : Hid (Below w.heap.size w ((w.alloc (.cells #[.int .i64 id, .string key, .bool bk, .bool ot, .int .i64 du, .bool dm, .string m, .string h, .string p, .slice h1 hs.length k1, .slice w1 ws.length c1] 29)).alloc (.cells #[.int .i64 id, .string key, .bool bk, .bool ot, .int .i64 du, .bool dm, .string m, .string h, .string p, .slice h2 hs.length k2, .slice w2 ws.length c2] 29))) := ((Below.refl _ _).alloc (Nat.le_refl _) _).alloc (by simp) _
  have HC1 : Hid (E11 ((w.alloc (.cells #[.int .i64 id, .string key, .bool bk, .bool ot, .int .i64 du, .bool dm, .string m, .string h, .string p, .slice h1 hs.length k1, .slice w1 ws.length c1] 29)).alloc (.cells #[.int .i64 id, .string key, .bool bk, .bool ot, .int .i64 du, .bool dm, .string m, .string h, .string p, .slice h2 hs.length k2, .slice w2 ws.length c2] 29)) w.heap.size (.int .i64 id) (.string key) (.bool bk) (.bool ot) (.int .i64 du) (.bool dm) (.string m) (.string h) (.string p) (.slice h1 hs.length k1) (.slice w1 ws.length c1)) := (E11.new w _ _ _ _ _ _ _ _ _ _ _ _).keep ((Below.refl _ _).alloc (Nat.le_refl _) _)
  have HC2 : Hid (E11 ((w.alloc (.cells #[.int .i64 id, .string key, .bool bk, .bool ot, .int .i64 du, .bool dm, .string m, .string h, .string p, .slice h1 hs.length k1, .slice w1 ws.length c1] 29)).alloc (.cells #[.int .i64 id, .string key, .bool bk, .bool ot, .int .i64 du, .bool dm, .string m, .string h, .string p, .slice h2 hs.length k2, .slice w2 ws.length c2] 29)) (w.heap.size + 1) (.int .i64 id) (.string key) (.bool bk) (.bool ot) (.int .i64 du) (.bool dm) (.string m) (.string h) (.string p) (.slice h2 hs.length k2) (.slice w2 ws.length c2)) := by
    have := E11.new (w.alloc (.cells #[.int .i64 id, .string key, .bool bk, .bool ot, .int .i64 du, .bool dm, .string m, .string h, .string p, .slice h1 hs.length k1, .slice w1 ws.length c1] 29)) (.int .i64 id) (.string key) (.bool bk) (.bool ot) (.int .i64 du) (.bool dm) (.string m) (.string h) (.string p) (.slice h2 hs.length k2) (.slice w2 ws.length c2) 29
    show E11 ((w.alloc (.cells #[.int .i64 id, .string key, .bool bk, .bool ot, .int .i64 du, .bool dm, .string m, .string h, .string p, .slice h1 hs.length k1, .slice w1 ws.length c1] 29)).alloc (.cells #[.int .i64 id, .string key, .bool bk, .bool ot, .int .i64 du, .bool dm, .string m, .string h, .string p, .slice h2 hs.length k2, .slice w2 ws.length c2] 29)) (w.heap.size + 1) (.int .i64 id) (.string key) (.bool bk) (.bool ot) (.int .i64 du) (.bool dm) (.string m) (.string h) (.string p) (.slice h2 hs.length k2) (.slice w2 ws.length c2)
    simpa using this
  have HQ : Hid (∀ X, Below w.heap.size w X → Calls Tryz.prog 84 #[.agg #[.string m, .string h, .string p, .slice h1 hs.length k1], .agg #[.string m, .string h, .string p, .slice h2 hs.length k2]] X fun e w' => e = .returned (.bool true) ∧ Below X.heap.size X w') := fun X hb => eqRequest_in X m h p h1 h2 k1 k2 hs hhl (i1.keep hb) (i2.keep hb)
  have HWS : Hid (∀ X, Below w.heap.size w X → Calls Tryz.prog 85 #[.slice w1 ws.length c1, .slice w2 ws.length c2] X fun e w' => e = .returned (.bool true) ∧ Below X.heap.size X w') := fun X hb => eqWrS_same X w1 w2 c1 c2 ws hwl (j1.keep hb) (j2.keep hb)
  obtain ⟨V, hV⟩ : ∃ V, V = ((w.alloc (.cells #[.int .i64 id, .string key, .bool bk, .bool ot, .int .i64 du, .bool dm, .string m, .string h, .string p, .slice h1 hs.length k1, .slice w1 ws.length c1] 29)).alloc (.cells #[.int .i64 id, .string key, .bool bk, .bool ot, .int .i64 du, .bool dm, .string m, .string h, .string p, .slice h2 hs.length k2, .slice w2 ws.length c2] 29)) := ⟨_, rfl⟩
  have HV : Hid (V = ((w.alloc (.cells #[.int .i64 id, .string key, .bool bk, .bool ot, .int .i64 du, .bool dm, .string m, .string h, .string p, .slice h1 hs.length k1, .slice w1 ws.length c1] 29)).alloc (.cells #[.int .i64 id, .string key, .bool bk, .bool ot, .int .i64 du, .bool dm, .string m, .string h, .string p, .slice h2 hs.length k2, .slice w2 ws.length c2] 29))) := hV
  rw [← hV] at HB HC1 HC2
  clear hV i1 i2 j1 j2 hhl hwl
  generalize hs.length = hl at *
  generalize ws.length = wn at *
  go_enter Tryz.func31, Tryz.ntmps31
  go_wp2_with fail
  rw [← HV.out]
  refine (HQ.out _ HB.out).mono ?_
  rintro r v1 ⟨rfl, hb1⟩
  have HB1 : Hid (Below w.heap.size w v1) := HB.out.trans (hb1.mono HB.out.size)
  have q1 := (HC1.out.keep hb1).c10
  have q2 := (HC2.out.keep hb1).c10
  clear hb1 HB HC1 HC2 HV HQ
  go_wp2_with fail
  refine (HWS.out _ HB1.out).mono ?_
  rintro r v2 ⟨rfl, hb2⟩
  have HB2 : Hid (Below w.heap.size w v2) := HB1.out.trans (hb2.mono HB1.out.size)
  clear hb2 HB1 HWS q1 q2
  go_wp2_with fail
  go_ret
  exact ⟨rfl, HB2.out⟩
end Go.Proofs.YtgejegmilkmiiaaGreatDoor
/-
  Two lists of flights that are alike, compared by the laws.
-/
namespace Go.Proofs.YtgejegmilkmiiaaGreatDoor
open Go.ChangeShapes Go.WideShapes Go.ChangeAt Go.RowKit Go.Sort
theorem eqFlight_q (w : World) (x : Fl) (r1 r2 : FlR) (hf : FlFit x) (h1 : FlIn w x r1) (h2 : FlIn w x r2) :
    Calls Tryz.prog 31 #[.agg #[.int .i64 x.id, .string x.key, .bool x.bk, .bool x.ot, .int .i64 x.du, .bool x.dm, .string x.m, .string x.h, .string x.p, .slice r1.ha x.hs.length r1.hc, .slice r1.wa x.ws.length r1.wc], .agg #[.int .i64 x.id, .string x.key, .bool x.bk, .bool x.ot, .int .i64 x.du, .bool x.dm, .string x.m, .string x.h, .string x.p, .slice r2.ha x.hs.length r2.hc, .slice r2.wa x.ws.length r2.wc]] w fun e w' => e = .returned (.bool true) ∧ Below w.heap.size w w' :=
  eqFlight_same w _ _ _ _ _ _ _ _ _ _ _ _ _ _ _ _ _ _ _ hf.h hf.w h1.h h2.h h1.k h2.k
set_option maxHeartbeats 1000000 in
theorem eqFlightS_none (w : World) (a b : Option Addr) (c d : Nat) :
    Calls Tryz.prog 34 #[.slice a 0 c, .slice b 0 d] w fun e w' => e = .returned (.bool true) ∧ Below w.heap.size w w' := by
  go_enter Tryz.func34, Tryz.ntmps34
  go_wp2_with fail
  go_loop [5] (fun i => i = .int .i64 0) (fun _ => 0)
  case atStart => exact rfl
  case round =>
    cases hrel
    go_wp2_with fail
    go_ret
    exact ⟨rfl, Below.refl _ _⟩
set_option maxRecDepth 100000 in
set_option maxHeartbeats 8000000 in
theorem eqFlightS_at (w : World) (b1 o1 b2 o2 c1 c2 : Nat) (l m : List (Fl × FlR)) (n : Nat) (hn : l.length = n) (hl : n ≤ 1048576) (hf : ∀ q ∈ l, FlFit q.1) (hm : l.map Prod.fst = m.map Prod.fst) (h1 : FlsAt w b1 o1 l) (h2 : FlsAt w b2 o2 m) :
    Calls Tryz.prog 34 #[.slice (some ⟨b1, o1, none⟩) n c1, .slice (some ⟨b2, o2, none⟩) n c2] w fun e w' => e = .returned (.bool true) ∧ Below w.heap.size w w' := by
  have H1 : Hid (FlsAt w b1 o1 l) := h1
  have H2 : Hid (FlsAt w b2 o2 m) := h2
  have HFT : Hid (∀ q ∈ l, FlFit q.1) := hf
  have HMP : Hid (l.map Prod.fst = m.map Prod.fst) := hm
  have HN : Hid (l.length = n) := hn
  clear h1 h2 hf hm hn
  go_enter Tryz.func34, Tryz.ntmps34
  go_wp2_with fail
  go_loopw [5] (fun i wr => ∃ k : Nat, k ≤ n ∧ i = .int .i64 k ∧ Below w.heap.size w wr) (fun i _ => n - (intOf i).toNat)
  case atStart => exact ⟨0, Nat.zero_le _, rfl, Below.refl _ _⟩
  case round =>
    obtain ⟨k, hk, rfl, hb⟩ := hrel
    by_cases hlt : k < n
    · obtain ⟨⟨x, r1⟩, hr⟩ : ∃ r, l[k]? = some r := ⟨l[k]'(by have := HN.out; omega), List.getElem?_eq_getElem _⟩
      obtain ⟨r2, hr2⟩ : ∃ r2, m[k]? = some (x, r2) := by
        have e := congrArg (fun z => z[k]?) HMP.out
        simp only [List.getElem?_map, hr, Option.map_some] at e
        obtain ⟨⟨y, r2⟩, e1, e2⟩ := Option.map_eq_some_iff.1 e.symm
        simp only at e2
        exact ⟨r2, by rw [e1, e2]⟩
      have P1 := (H1.out.keep hb).cells hr
      have P2 := (H2.out.keep hb).cells hr2
      simp only at P1 P2
      have I1 := (H1.out.keep hb).in hr
      have I2 := (H2.out.keep hb).in hr2
      have ft := HFT.out _ (List.mem_of_getElem? hr)
      simp only at I1 I2 ft
      have cE : ∀ d os, Calls Tryz.prog 31 #[.agg #[.int .i64 x.id, .string x.key, .bool x.bk, .bool x.ot, .int .i64 x.du, .bool x.dm, .string x.m, .string x.h, .string x.p, .slice r1.ha x.hs.length r1.hc, .slice r1.wa x.ws.length r1.wc], .agg #[.int .i64 x.id, .string x.key, .bool x.bk, .bool x.ot, .int .i64 x.du, .bool x.dm, .string x.m, .string x.h, .string x.p, .slice r2.ha x.hs.length r2.hc, .slice r2.wa x.ws.length r2.wc]] (grow (redrawn wr d) os) fun e w'' => e = .returned (.bool true) ∧ ∃ p : Regrown, w'' = grow (redrawn wr p.d) p.os := fun d os => Calls.regrown_of (eqFlight_q _ x r1 r2 ft (I1.keep (below_regrown wr d os)) (I2.keep (below_regrown wr d os)))
      have g0 : (0 : Int) ≤ k := by omega
      have g : (k : Int) < n := by omega
      have x0 := cell_regrown P1.1
      have x1 := cell_regrown P1.2.1
      have x2 := cell_regrown P1.2.2.1
      have x3 := cell_regrown P1.2.2.2.1
      have x4 := cell_regrown P1.2.2.2.2.1
      have x5 := cell_regrown P1.2.2.2.2.2.1
      have x6 := cell_regrown P1.2.2.2.2.2.2.1
      have x7 := cell_regrown P1.2.2.2.2.2.2.2.1
      have x8 := cell_regrown P1.2.2.2.2.2.2.2.2.1
      have x9 := cell_regrown P1.2.2.2.2.2.2.2.2.2.1
      have x10 := cell_regrown P1.2.2.2.2.2.2.2.2.2.2
      have y0 := cell_regrown P2.1
      have y1 := cell_regrown P2.2.1
      have y2 := cell_regrown P2.2.2.1
      have y3 := cell_regrown P2.2.2.2.1
      have y4 := cell_regrown P2.2.2.2.2.1
      have y5 := cell_regrown P2.2.2.2.2.2.1
      have y6 := cell_regrown P2.2.2.2.2.2.2.1
      have y7 := cell_regrown P2.2.2.2.2.2.2.2.1
      have y8 := cell_regrown P2.2.2.2.2.2.2.2.2.1
      have y9 := cell_regrown P2.2.2.2.2.2.2.2.2.2.1
      have y10 := cell_regrown P2.2.2.2.2.2.2.2.2.2.2
      clear hr hr2 P1 P2 I1 I2 ft
      obtain ⟨id, key, bk, ot, du, dm, mt, ho, pa, hs, ws⟩ := x
      obtain ⟨ha1, hc1, wa1, wc1⟩ := r1
      obtain ⟨ha2, hc2, wa2, wc2⟩ := r2
      simp only at x0 x1 x2 x3 x4 x5 x6 x7 x8 x9 x10 y0 y1 y2 y3 y4 y5 y6 y7 y8 y9 y10 cE
      generalize hs.length = hl at *
      generalize ws.length = wn at *
      go_wp2_with fail
      refine wp_region_quiet_below (by kernel_rfl) (by kernel_rfl) ?_
      repeat (go_big_quiet_step ((go_at_call 31; exact cE _ _)))
      refine wpQuiet_nil ?_
      intro w2 hw2
      have hbb : Below w.heap.size w w2 := by
        obtain ⟨⟨d, os⟩, rfl⟩ := hw2
        exact hb.trans ((below_regrown wr d os).mono hb.size)
      clear x0 x1 x2 x3 x4 x5 x6 x7 x8 x9 x10 y0 y1 y2 y3 y4 y5 y6 y7 y8 y9 y10 cE hw2 hb
      go_wp2_with fail
      go_roundw
      case rel => exact ⟨k + 1, by omega, by go_num, hbb⟩
      case measure => simp [intOf]; omega
    · go_wp2_with fail
      go_ret
      exact ⟨rfl, hb⟩
theorem eqFlightS_same (w : World) (a1 a2 : Option Addr) (c1 c2 : Nat) (l m : List (Fl × FlR)) (hl : l.length ≤ 1048576) (hf : ∀ q ∈ l, FlFit q.1) (hm : l.map Prod.fst = m.map Prod.fst) (h1 : FlsIn w a1 l) (h2 : FlsIn w a2 m) :
    Calls Tryz.prog 34 #[.slice a1 l.length c1, .slice a2 l.length c2] w fun e w' => e = .returned (.bool true) ∧ Below w.heap.size w w' := by
  rcases h1 with rfl | ⟨b, o, rfl, h1⟩
  · exact eqFlightS_none w _ _ _ _
  · rcases h2 with rfl | ⟨b2, o2, rfl, h2⟩
    · have : l = [] := by simpa using hm
      subst this
      exact eqFlightS_none w _ _ _ _
    · exact eqFlightS_at w b o b2 o2 c1 c2 l m _ rfl hl hf hm h1 h2
end Go.Proofs.YtgejegmilkmiiaaGreatDoor
/-
  Head lines that came in, opened.
-/
namespace Go.Proofs.YtgejegmilkmiiaaGreatDoor
open Go.ChangeShapes Go.WideShapes Go.ChangeAt Go.RowKit Go.Deep
theorem headerCells : Tryz.prog.cellsOf 174 = 2 := by kernel_rfl
theorem hOneS : Tryz.prog.cellsOf 9 = 1 := by kernel_rfl
theorem hdr_of {H : Type} {enc : TypeId × Value → H} {w : World} {base : Nat} {spare : Nat → Bool} {held : Bool} {fuel : Nat} {cs : List Value} {x : DataW H × List MemPlace}
    (h : DataW.trod enc Tryz.prog w base spare held fuel 174 cs = some x) : ∃ r : Hdr, cs = [.string r.name, .string r.value] ∧ r.name.size ≤ maxLen ∧ r.value.size ≤ maxLen := by
  obtain ⟨y0, y1, n, _, hl, h0, h2⟩ := trod_struct2 Tryz.underlying174 h
  rw [headerCells] at hl
  simp only [hOneS] at h0 h2
  obtain ⟨s0, e0, _, z0⟩ := DataW.trod_string Tryz.underlying9 h0
  obtain ⟨s2, e2, _, z2⟩ := DataW.trod_string Tryz.underlying9 h2
  match cs, hl with
  | [c0, c2], _ =>
    simp only [List.drop_zero, List.take_succ_cons, List.take_zero, List.drop_succ_cons, List.cons.injEq, and_true] at e0 e2
    exact ⟨⟨s0, s2⟩, by rw [e0, e2], z0, z2⟩
theorem open_headers {H : Type} {enc : TypeId × Value → H} {w : World} {base : Nat} {spare : Nat → Bool} {held : Bool} {fuel : Nat} {a : Option Addr} {len cap : Nat} {x : DataW H × List MemPlace}
    (h : DataW.trod enc Tryz.prog w base spare held fuel 54 [.slice a len cap] = some x) :
    ∃ l : List Hdr, l.length = len ∧ len ≤ maxLen ∧ SmallHdrs l ∧ (l = [] ∨ ∃ b off, a = some ⟨b, off, none⟩ ∧ HeadsAt w b off l) := by
  rcases open_slice Tryz.underlying54 h with ⟨hcs, _⟩ | ⟨A, len', cap', m, n, D, Pl, hcs, _, hl, hm, hmm, _, hel⟩
  · simp only [List.cons.injEq, Value.slice.injEq, and_true] at hcs
    obtain ⟨_, rfl, _⟩ := hcs
    exact ⟨[], rfl, by unfold maxLen; omega, fun i r hr => by simp at hr, .inl rfl⟩
  · simp only [List.cons.injEq, Value.slice.injEq, and_true] at hcs
    obtain ⟨rfl, rfl, rfl⟩ := hcs
    have hlm : len ≤ m := by rw [hmm]; split <;> omega
    have hrec : ∀ i, i < len → ∃ r : Hdr, w.cells? base (A.add (i * 2)) 2 = some [.string r.name, .string r.value] ∧ r.name.size ≤ maxLen ∧ r.value.size ≤ maxLen := by
      intro i hi
      obtain ⟨cs', hc, ht⟩ := hel i (by omega)
      rw [headerCells] at hc
      obtain ⟨r, rfl, z⟩ := hdr_of ht
      exact ⟨r, hc, z⟩
    obtain ⟨f, hf⟩ : ∃ f : Nat → Hdr, ∀ i, i < len → w.cells? base (A.add (i * 2)) 2 = some [.string (f i).name, .string (f i).value] ∧ (f i).name.size ≤ maxLen ∧ (f i).value.size ≤ maxLen := by
      classical
      refine ⟨fun i => if hi : i < len then (hrec i hi).choose else ⟨.empty, .empty⟩, fun i hi => ?_⟩
      simp only [dif_pos hi]
      exact (hrec i hi).choose_spec
    refine ⟨(List.range len).map f, by simp, by omega, ?_, ?_⟩
    · intro i r hr
      rw [List.getElem?_map] at hr
      obtain ⟨j, hj, rfl⟩ := Option.map_eq_some_iff.1 hr
      obtain ⟨hlt, rfl⟩ := List.getElem?_eq_some_iff.1 hj
      simp at hlt
      simpa using (hf i hlt).2
    · by_cases h0 : len = 0
      · subst h0; exact .inl rfl
      · obtain ⟨b, off, spot⟩ := A
        have cells : ∀ i, i < len → ∀ j, j < 2 → w.cell? ((⟨b, off, spot⟩ : Addr).add (i * 2 + j)) = ([.string (f i).name, .string (f i).value] : List Value)[j]? := by
          intro i hi j hj
          have c := (World.cells?_some (hf i hi).1).2.2 j hj
          rw [add_add] at c
          exact c
        have hs : spot = none := by
          have c := cells 0 (by omega) 0 (by omega)
          simp only [Nat.zero_mul, Nat.add_zero, List.getElem?_cons_zero] at c
          simpa [Addr.add] using World.cell?_spot c
        subst hs
        have hadd : ∀ i, (⟨b, off, none⟩ : Addr).add i = ⟨b, off + i, none⟩ := fun i => by unfold Addr.add; split <;> simp_all
        refine .inr ⟨b, off, rfl, fun i r hr => ?_⟩
        rw [List.getElem?_map] at hr
        obtain ⟨j, hj, rfl⟩ := Option.map_eq_some_iff.1 hr
        obtain ⟨hlt, rfl⟩ := List.getElem?_eq_some_iff.1 hj
        simp only [List.length_range] at hlt
        simp only [List.getElem_range]
        have q0 := cells i hlt 0 (by omega)
        have q1 := cells i hlt 1 (by omega)
        rw [hadd] at q0 q1
        exact ⟨by simpa using q0, by simpa [Nat.add_assoc] using q1⟩
end Go.Proofs.YtgejegmilkmiiaaGreatDoor
/-
  A request and a response that came in by value, opened.
-/
namespace Go.Proofs.YtgejegmilkmiiaaGreatDoor
open Go.ChangeShapes Go.WideShapes Go.ChangeAt Go.RowKit Go.Deep
theorem requestCells : Tryz.prog.cellsOf 56 = 4 := by kernel_rfl
theorem headsOne : Tryz.prog.cellsOf 54 = 1 := by kernel_rfl
theorem slice_cs {H : Type} {enc : TypeId × Value → H} {w : World} {base : Nat} {spare : Nat → Bool} {held : Bool} {fuel : Nat} {cs : List Value} {t e : TypeId} {x : DataW H × List MemPlace}
    (hu : Tryz.prog.underlying t = some (.slice e)) (h : DataW.trod enc Tryz.prog w base spare held fuel t cs = some x) : ∃ a len cap, cs = [.slice a len cap] := by
  rcases open_slice hu h with ⟨hcs, _⟩ | ⟨A, len', cap', m, n, D, Pl, hcs, _⟩
  · exact ⟨_, _, _, hcs⟩
  · exact ⟨_, _, _, hcs⟩
set_option maxRecDepth 100000 in
theorem open_request {H : Type} {enc : TypeId × Value → H} {w : World} {r : Reach} {b0 base : Nat} {spare : Nat → Bool} {held : Bool} {v : Value} {d : DataW H} {p : List MemPlace}
    (hv : Value.okWide Tryz.prog w r b0 56 v) (h : DataW.Trod enc Tryz.prog w base spare held 56 v d p) :
    ∃ (m h p : ByteArray) (a : Option Addr) (cap : Nat) (l : List Hdr), v = .agg #[.string m, .string h, .string p, .slice a l.length cap] ∧ m.size ≤ maxLen ∧ h.size ≤ maxLen ∧ p.size ≤ maxLen ∧ l.length ≤ maxLen ∧ SmallHdrs l ∧ (l = [] ∨ ∃ b off, a = some ⟨b, off, none⟩ ∧ HeadsAt w b off l) := by
  obtain ⟨cs, rfl, hsz⟩ := okWide_struct Tryz.underlying56 hv
  obtain ⟨fuel, hf0⟩ := h
  obtain ⟨xs, n, _, _, hl, hlen, hf⟩ := DataW.trod_struct Tryz.underlying56 hf0
  match xs, hlen with
  | [y0, y1, y2, y3], _ =>
    have h0 : DataW.trod enc Tryz.prog w base spare held n 9 (((Value.agg cs).cells.toList.drop 0).take (Tryz.prog.cellsOf 9)) = some y0 := hf 0 _ rfl
    have h1 : DataW.trod enc Tryz.prog w base spare held n 9 (((Value.agg cs).cells.toList.drop 1).take (Tryz.prog.cellsOf 9)) = some y1 := hf 1 _ rfl
    have h2 : DataW.trod enc Tryz.prog w base spare held n 9 (((Value.agg cs).cells.toList.drop 2).take (Tryz.prog.cellsOf 9)) = some y2 := hf 2 _ rfl
    have h3 : DataW.trod enc Tryz.prog w base spare held n 54 (((Value.agg cs).cells.toList.drop 3).take (Tryz.prog.cellsOf 54)) = some y3 := hf 3 _ rfl
    rw [hOneS] at h0 h1 h2
    rw [headsOne] at h3
    obtain ⟨s0, e0, _, z0⟩ := DataW.trod_string Tryz.underlying9 h0
    obtain ⟨s1, e1, _, z1⟩ := DataW.trod_string Tryz.underlying9 h1
    obtain ⟨s2, e2, _, z2⟩ := DataW.trod_string Tryz.underlying9 h2
    obtain ⟨a, len, cap, e3⟩ := slice_cs Tryz.underlying54 h3
    rw [e3] at h3
    obtain ⟨l, rfl, m3, s3, o3⟩ := open_headers h3
    refine ⟨s0, s1, s2, a, cap, l, ?_, z0, z1, z2, m3, s3, o3⟩
    have e : cs.toList = [.string s0, .string s1, .string s2, .slice a l.length cap] := by
      simp only [Value.cells] at e0 e1 e2 e3 hl
      rw [requestCells] at hl
      match hc : cs.toList, hl with
      | [c0, c1, c2, c3], _ =>
        rw [hc] at e0 e1 e2 e3
        simp only [List.drop_zero, List.take_succ_cons, List.take_zero, List.drop_succ_cons, List.cons.injEq, and_true] at e0 e1 e2 e3
        rw [e0, e1, e2, e3]
    congr 1
    exact Array.toList_inj.1 e
end Go.Proofs.YtgejegmilkmiiaaGreatDoor
/-
  A list that came in, opened.
-/
namespace Go.Proofs.YtgejegmilkmiiaaGreatDoor
open Go.ChangeShapes Go.WideShapes Go.ChangeAt Go.RowKit Go.Deep
theorem cellsWr : Tryz.prog.cellsOf 71 = 4 := by kernel_rfl
theorem oneWrb : Tryz.prog.cellsOf 4 = 1 := by kernel_rfl
theorem oneWri : Tryz.prog.cellsOf 2 = 1 := by kernel_rfl
set_option maxRecDepth 100000 in
theorem ofWr {H : Type} {enc : TypeId × Value → H} {w : World} {base : Nat} {spare : Nat → Bool} {held : Bool} {fuel : Nat} {cs : List Value} {x : DataW H × List MemPlace}
    (h : DataW.trod enc Tryz.prog w base spare held fuel 71 cs = some x) : ∃ r : Wr, cs = [.int .i64 r.rq, .bool r.hd, .int .i64 r.du, .bool r.lt] := by
  obtain ⟨xs, n, _, _, hl, hlen, hf⟩ := DataW.trod_struct Tryz.underlying71 h
  rw [cellsWr] at hl
  match xs, hlen with
  | [y0, y1, y2, y3], _ =>
    have h0 : DataW.trod enc Tryz.prog w base spare held n 2 ((cs.drop 0).take (Tryz.prog.cellsOf 2)) = some y0 := hf 0 _ rfl
    have h1 : DataW.trod enc Tryz.prog w base spare held n 4 ((cs.drop 1).take (Tryz.prog.cellsOf 4)) = some y1 := hf 1 _ rfl
    have h2 : DataW.trod enc Tryz.prog w base spare held n 2 ((cs.drop 2).take (Tryz.prog.cellsOf 2)) = some y2 := hf 2 _ rfl
    have h3 : DataW.trod enc Tryz.prog w base spare held n 4 ((cs.drop 3).take (Tryz.prog.cellsOf 4)) = some y3 := hf 3 _ rfl
    rw [oneWri] at h0 h2
    rw [oneWrb] at h1 h3
    obtain ⟨s0, e0, _⟩ := DataW.trod_int Tryz.underlying2 h0
    obtain ⟨s1, e1, _⟩ := DataW.trod_bool Tryz.underlying4 h1
    obtain ⟨s2, e2, _⟩ := DataW.trod_int Tryz.underlying2 h2
    obtain ⟨s3, e3, _⟩ := DataW.trod_bool Tryz.underlying4 h3
    match cs, hl with
    | [c0, c1, c2, c3], _ =>
      simp only [List.drop_zero, List.take_succ_cons, List.take_zero, List.drop_succ_cons, List.cons.injEq, and_true] at e0 e1 e2 e3
      exact ⟨⟨s0, s1, s2, s3⟩, by rw [e0, e1, e2, e3]⟩
set_option maxRecDepth 100000 in
theorem openWr {H : Type} {enc : TypeId × Value → H} {w : World} {base : Nat} {spare : Nat → Bool} {held : Bool} {fuel : Nat} {a : Option Addr} {len cap : Nat} {x : DataW H × List MemPlace}
    (h : DataW.trod enc Tryz.prog w base spare held fuel 57 [.slice a len cap] = some x) :
    ∃ l : List Wr, l.length = len ∧ len ≤ maxLen ∧ WrIn w a l := by
  rcases open_slice Tryz.underlying57 h with ⟨hcs, _⟩ | ⟨A, len', cap', m, n, D, Pl, hcs, _, hl, hm, hmm, _, hel⟩
  · simp only [List.cons.injEq, Value.slice.injEq, and_true] at hcs
    obtain ⟨_, rfl, _⟩ := hcs
    exact ⟨[], rfl, by unfold maxLen; omega, .inl rfl⟩
  · simp only [List.cons.injEq, Value.slice.injEq, and_true] at hcs
    obtain ⟨rfl, rfl, rfl⟩ := hcs
    have hlm : len ≤ m := by rw [hmm]; split <;> omega
    have hrec : ∀ i, i < len → ∃ r : Wr, w.cells? base (A.add (i * 4)) 4 = some [.int .i64 r.rq, .bool r.hd, .int .i64 r.du, .bool r.lt] := by
      intro i hi
      obtain ⟨cs', hc, ht⟩ := hel i (by omega)
      rw [cellsWr] at hc
      obtain ⟨r, rfl⟩ := ofWr ht
      exact ⟨r, hc⟩
    obtain ⟨f, hf⟩ : ∃ f : Nat → Wr, ∀ i, i < len → w.cells? base (A.add (i * 4)) 4 = some [.int .i64 (f i).rq, .bool (f i).hd, .int .i64 (f i).du, .bool (f i).lt] := by
      classical
      refine ⟨fun i => if hi : i < len then (hrec i hi).choose else ⟨0, false, 0, false⟩, fun i hi => ?_⟩
      simp only [dif_pos hi]
      exact (hrec i hi).choose_spec
    refine ⟨(List.range len).map f, by simp, by omega, ?_⟩
    by_cases h0 : len = 0
    · subst h0; exact .inl rfl
    · obtain ⟨b, off, spot⟩ := A
      have cells : ∀ i, i < len → ∀ j, j < 4 → w.cell? ((⟨b, off, spot⟩ : Addr).add (i * 4 + j)) = ([.int .i64 (f i).rq, .bool (f i).hd, .int .i64 (f i).du, .bool (f i).lt] : List Value)[j]? := by
        intro i hi j hj
        have c := (World.cells?_some (hf i hi)).2.2 j hj
        rw [add_add] at c
        exact c
      have hs : spot = none := by
        have c := cells 0 (by omega) 0 (by omega)
        simp only [Nat.zero_mul, Nat.add_zero, List.getElem?_cons_zero] at c
        simpa [Addr.add] using World.cell?_spot c
      subst hs
      have hadd : ∀ i, (⟨b, off, none⟩ : Addr).add i = ⟨b, off + i, none⟩ := fun i => by unfold Addr.add; split <;> simp_all
      refine .inr ⟨b, off, rfl, fun i r hr => ?_⟩
      rw [List.getElem?_map] at hr
      obtain ⟨j, hj, rfl⟩ := Option.map_eq_some_iff.1 hr
      obtain ⟨hlt, rfl⟩ := List.getElem?_eq_some_iff.1 hj
      simp only [List.length_range] at hlt
      simp only [List.getElem_range]
      have q0 := cells i hlt 0 (by omega)
      have q1 := cells i hlt 1 (by omega)
      have q2 := cells i hlt 2 (by omega)
      have q3 := cells i hlt 3 (by omega)
      rw [hadd] at q0 q1 q2 q3
      exact ⟨by simpa using q0, by simpa [Nat.add_assoc] using q1, by simpa [Nat.add_assoc] using q2, by simpa [Nat.add_assoc] using q3⟩
end Go.Proofs.YtgejegmilkmiiaaGreatDoor
/-
  A flight that came in, and flights, opened.
-/
namespace Go.Proofs.YtgejegmilkmiiaaGreatDoor
open Go.ChangeShapes Go.WideShapes Go.ChangeAt Go.RowKit Go.Deep
theorem flCells : Tryz.prog.cellsOf 59 = 11 := by kernel_rfl
theorem fOneS : Tryz.prog.cellsOf 9 = 1 := by kernel_rfl
theorem fOneI : Tryz.prog.cellsOf 2 = 1 := by kernel_rfl
theorem fOneB : Tryz.prog.cellsOf 4 = 1 := by kernel_rfl
theorem fOneH : Tryz.prog.cellsOf 54 = 1 := by kernel_rfl
theorem fOneW : Tryz.prog.cellsOf 57 = 1 := by kernel_rfl
theorem fOneR : Tryz.prog.cellsOf 56 = 4 := by kernel_rfl
theorem slice_cap {H : Type} {enc : TypeId × Value → H} {P : Program} {w : World} {base : Nat} {spare : Nat → Bool} {held : Bool} {fuel : Nat} {t e : TypeId} {a : Option Addr} {n c : Nat} {x : DataW H × List MemPlace} (ht : P.underlying t = some (.slice e))
    (h : DataW.trod enc P w base spare held fuel t [.slice a n c] = some x) : n ≤ c := by
  rcases open_slice ht h with ⟨hcs, _⟩ | ⟨A, len', cap', m, n', D, Pl, hcs, _, hl, _⟩
  · simp only [List.cons.injEq, Value.slice.injEq, and_true] at hcs
    omega
  · simp only [List.cons.injEq, Value.slice.injEq, and_true] at hcs
    omega
set_option maxRecDepth 100000 in
theorem req_cs {H : Type} {enc : TypeId × Value → H} {w : World} {base : Nat} {spare : Nat → Bool} {held : Bool} {fuel : Nat} {cs : List Value} {x : DataW H × List MemPlace}
    (h : DataW.trod enc Tryz.prog w base spare held fuel 56 cs = some x) : ∃ (m h p : ByteArray) (ha : Option Addr) (hc : Nat) (hs : List Hdr), cs = [.string m, .string h, .string p, .slice ha hs.length hc] ∧ m.size ≤ maxLen ∧ h.size ≤ maxLen ∧ p.size ≤ maxLen ∧ hs.length ≤ maxLen ∧ SmallHdrs hs ∧ HdsIn w ha hs ∧ hs.length ≤ hc := by
  obtain ⟨xs, n, _, _, hl, hlen, hf⟩ := DataW.trod_struct Tryz.underlying56 h
  match xs, hlen with
  | [y0, y1, y2, y3], _ =>
    have h0 : DataW.trod enc Tryz.prog w base spare held n 9 ((cs.drop 0).take (Tryz.prog.cellsOf 9)) = some y0 := hf 0 _ rfl
    have h1 : DataW.trod enc Tryz.prog w base spare held n 9 ((cs.drop 1).take (Tryz.prog.cellsOf 9)) = some y1 := hf 1 _ rfl
    have h2 : DataW.trod enc Tryz.prog w base spare held n 9 ((cs.drop 2).take (Tryz.prog.cellsOf 9)) = some y2 := hf 2 _ rfl
    have h3 : DataW.trod enc Tryz.prog w base spare held n 54 ((cs.drop 3).take (Tryz.prog.cellsOf 54)) = some y3 := hf 3 _ rfl
    rw [fOneS] at h0 h1 h2
    rw [fOneH] at h3
    obtain ⟨s0, e0, _, z0⟩ := DataW.trod_string Tryz.underlying9 h0
    obtain ⟨s1, e1, _, z1⟩ := DataW.trod_string Tryz.underlying9 h1
    obtain ⟨s2, e2, _, z2⟩ := DataW.trod_string Tryz.underlying9 h2
    obtain ⟨ha, hn, hc, e3⟩ := slice_cs Tryz.underlying54 h3
    rw [e3] at h3
    obtain ⟨l, rfl, m3, sm3, o3⟩ := open_headers h3
    refine ⟨s0, s1, s2, ha, hc, l, ?_, z0, z1, z2, m3, sm3, o3, slice_cap Tryz.underlying54 h3⟩
    rw [fOneR] at hl
    match cs, hl with
    | [c0, c1, c2, c3], _ =>
      simp only [List.drop_zero, List.take_succ_cons, List.take_zero, List.drop_succ_cons, List.cons.injEq, and_true] at e0 e1 e2 e3
      rw [e0, e1, e2, e3]
set_option maxRecDepth 100000 in
theorem fl_of {H : Type} {enc : TypeId × Value → H} {w : World} {base : Nat} {spare : Nat → Bool} {held : Bool} {fuel : Nat} {cs : List Value} {x : DataW H × List MemPlace}
    (h : DataW.trod enc Tryz.prog w base spare held fuel 59 cs = some x) : ∃ (q : Fl) (r : FlR), cs = flW q r ∧ FlIn w q r ∧ FlSm q := by
  obtain ⟨xs, n, _, _, hl, hlen, hf⟩ := DataW.trod_struct Tryz.underlying59 h
  match xs, hlen with
  | [y0, y1, y2, y3, y4, y5, y6, y7], _ =>
    have h0 : DataW.trod enc Tryz.prog w base spare held n 2 ((cs.drop 0).take (Tryz.prog.cellsOf 2)) = some y0 := hf 0 _ rfl
    have h1 : DataW.trod enc Tryz.prog w base spare held n 9 ((cs.drop 1).take (Tryz.prog.cellsOf 9)) = some y1 := hf 1 _ rfl
    have h2 : DataW.trod enc Tryz.prog w base spare held n 4 ((cs.drop 2).take (Tryz.prog.cellsOf 4)) = some y2 := hf 2 _ rfl
    have h3 : DataW.trod enc Tryz.prog w base spare held n 4 ((cs.drop 3).take (Tryz.prog.cellsOf 4)) = some y3 := hf 3 _ rfl
    have h4 : DataW.trod enc Tryz.prog w base spare held n 2 ((cs.drop 4).take (Tryz.prog.cellsOf 2)) = some y4 := hf 4 _ rfl
    have h5 : DataW.trod enc Tryz.prog w base spare held n 4 ((cs.drop 5).take (Tryz.prog.cellsOf 4)) = some y5 := hf 5 _ rfl
    have h6 : DataW.trod enc Tryz.prog w base spare held n 56 ((cs.drop 6).take (Tryz.prog.cellsOf 56)) = some y6 := hf 6 _ rfl
    have h7 : DataW.trod enc Tryz.prog w base spare held n 57 ((cs.drop 10).take (Tryz.prog.cellsOf 57)) = some y7 := hf 7 _ rfl
    rw [fOneI] at h0 h4
    rw [fOneS] at h1
    rw [fOneB] at h2 h3 h5
    rw [fOneR] at h6
    rw [fOneW] at h7
    obtain ⟨s0, e0, _⟩ := DataW.trod_int Tryz.underlying2 h0
    obtain ⟨s1, e1, _, z1⟩ := DataW.trod_string Tryz.underlying9 h1
    obtain ⟨s2, e2, _⟩ := DataW.trod_bool Tryz.underlying4 h2
    obtain ⟨s3, e3, _⟩ := DataW.trod_bool Tryz.underlying4 h3
    obtain ⟨s4, e4, _⟩ := DataW.trod_int Tryz.underlying2 h4
    obtain ⟨s5, e5, _⟩ := DataW.trod_bool Tryz.underlying4 h5
    obtain ⟨m, ho, p, ha, hc, l, e6, q1, q2, q3, q4, q5, q6, q7⟩ := req_cs h6
    obtain ⟨wa, wn, wc, e7⟩ := slice_cs Tryz.underlying57 h7
    rw [e7] at h7
    obtain ⟨ws, rfl, m7, o7⟩ := openWr h7
    refine ⟨⟨s0, s1, s2, s3, s4, s5, m, ho, p, l, ws⟩, ⟨ha, hc, wa, wc⟩, ?_, ⟨q6, o7, q7, slice_cap Tryz.underlying57 h7⟩, ⟨z1, q1, q2, q3, q4, q5, m7⟩⟩
    rw [flCells] at hl
    match cs, hl with
    | [c0, c1, c2, c3, c4, c5, c6, c7, c8, c9, c10], _ =>
      simp only [List.drop_zero, List.take_succ_cons, List.take_zero, List.drop_succ_cons, List.cons.injEq, and_true] at e0 e1 e2 e3 e4 e5 e6 e7
      obtain ⟨f6, f7, f8, f9⟩ := e6
      rw [e0, e1, e2, e3, e4, e5, f6, f7, f8, f9, e7]
      rfl
set_option maxRecDepth 100000 in
theorem open_flight {H : Type} {enc : TypeId × Value → H} {w : World} {r : Reach} {b0 base : Nat} {spare : Nat → Bool} {held : Bool} {v : Value} {d : DataW H} {p : List MemPlace}
    (hv : Value.okWide Tryz.prog w r b0 59 v) (h : DataW.Trod enc Tryz.prog w base spare held 59 v d p) : ∃ (q : Fl) (r : FlR), v = flV q r ∧ FlIn w q r ∧ FlSm q := by
  obtain ⟨cs, rfl, hsz⟩ := okWide_struct Tryz.underlying59 hv
  obtain ⟨fuel, hf0⟩ := h
  obtain ⟨q, r, e, h1, h2⟩ := fl_of hf0
  refine ⟨q, r, ?_, h1, h2⟩
  simp only [Value.cells] at e
  show Value.agg cs = .agg _
  congr 1
  exact Array.toList_inj.1 e
set_option maxRecDepth 100000 in
theorem open_flights {H : Type} {enc : TypeId × Value → H} {w : World} {base : Nat} {spare : Nat → Bool} {held : Bool} {fuel : Nat} {a : Option Addr} {len cap : Nat} {x : DataW H × List MemPlace}
    (h : DataW.trod enc Tryz.prog w base spare held fuel 64 [.slice a len cap] = some x) :
    ∃ l : List (Fl × FlR), l.length = len ∧ len ≤ maxLen ∧ len ≤ cap ∧ (∀ q ∈ l, FlSm q.1) ∧ FlsIn w a l := by
  have hcap := slice_cap Tryz.underlying64 h
  rcases open_slice Tryz.underlying64 h with ⟨hcs, _⟩ | ⟨A, len', cap', m, n, D, Pl, hcs, _, hl, hm, hmm, _, hel⟩
  · simp only [List.cons.injEq, Value.slice.injEq, and_true] at hcs
    obtain ⟨_, rfl, _⟩ := hcs
    exact ⟨[], rfl, by unfold maxLen; omega, hcap, fun q hq => by simp at hq, .inl rfl⟩
  · simp only [List.cons.injEq, Value.slice.injEq, and_true] at hcs
    obtain ⟨rfl, rfl, rfl⟩ := hcs
    have hlm : len ≤ m := by rw [hmm]; split <;> omega
    have hrec : ∀ i, i < len → ∃ q : Fl × FlR, w.cells? base (A.add (i * 11)) 11 = some (flW q.1 q.2) ∧ FlIn w q.1 q.2 ∧ FlSm q.1 := by
      intro i hi
      obtain ⟨cs', hc, ht⟩ := hel i (by omega)
      rw [flCells] at hc
      obtain ⟨q, r, rfl, z⟩ := fl_of ht
      exact ⟨(q, r), hc, z⟩
    obtain ⟨f, hf⟩ : ∃ f : Nat → Fl × FlR, ∀ i, i < len → w.cells? base (A.add (i * 11)) 11 = some (flW (f i).1 (f i).2) ∧ FlIn w (f i).1 (f i).2 ∧ FlSm (f i).1 := by
      classical
      refine ⟨fun i => if hi : i < len then (hrec i hi).choose else (⟨0, .empty, false, false, 0, false, .empty, .empty, .empty, [], []⟩, ⟨none, 0, none, 0⟩), fun i hi => ?_⟩
      simp only [dif_pos hi]
      exact (hrec i hi).choose_spec
    refine ⟨(List.range len).map f, by simp, by omega, hcap, ?_, ?_⟩
    · intro q hq
      obtain ⟨i, hi, rfl⟩ := List.mem_map.1 hq
      exact (hf i (by simpa using hi)).2.2
    · by_cases h0 : len = 0
      · subst h0; exact .inl rfl
      · obtain ⟨b, off, spot⟩ := A
        have cells : ∀ i, i < len → ∀ j, j < 11 → w.cell? ((⟨b, off, spot⟩ : Addr).add (i * 11 + j)) = (flW (f i).1 (f i).2)[j]? := by
          intro i hi j hj
          have c := (World.cells?_some (hf i hi).1).2.2 j hj
          rw [add_add] at c
          exact c
        have hs : spot = none := by
          have c := cells 0 (by omega) 0 (by omega)
          simp only [Nat.zero_mul, Nat.add_zero, flW, List.getElem?_cons_zero] at c
          simpa [Addr.add] using World.cell?_spot c
        subst hs
        have hadd : ∀ i, (⟨b, off, none⟩ : Addr).add i = ⟨b, off + i, none⟩ := fun i => by unfold Addr.add; split <;> simp_all
        refine .inr ⟨b, off, rfl, fun i q hq => ?_⟩
        rw [List.getElem?_map] at hq
        obtain ⟨j, hj, rfl⟩ := Option.map_eq_some_iff.1 hq
        obtain ⟨hlt, rfl⟩ := List.getElem?_eq_some_iff.1 hj
        simp only [List.length_range] at hlt
        simp only [List.getElem_range]
        refine ⟨fun j hj => ?_, (hf i hlt).2.1⟩
        have q0 := cells i hlt j hj
        rw [hadd, ← Nat.add_assoc] at q0
        exact q0
end Go.Proofs.YtgejegmilkmiiaaGreatDoor
/-
  As many variables are read as are named.
-/
namespace Go.Proofs.YtgejegmilkmiiaaGreatDoor
theorem trodVars_len {H : Type} {enc : TypeId × Value → H} {P : Program} {W : World} {sp : Nat → Bool} : ∀ {ns : List String} {gs : List (DataW H)} {ps : List MemPlace}, DataW.TrodVars enc P W sp ns gs ps → gs.length = ns.length
  | [], [], _, _ => rfl
  | [], _ :: _, _, h => h.elim
  | _ :: _, [], _, h => h.elim
  | n :: ns, d :: ds, ps, h => by
    obtain ⟨g, t, cs, fuel, p, q, h1, h2, h3, h4, hs, e⟩ := h
    simp [trodVars_len hs]
end Go.Proofs.YtgejegmilkmiiaaGreatDoor
/-
  Facts of the program as a whole that every card of this seat leans on: each reckoned by the kernel, each by itself.
-/
namespace Go.Proofs.YtgejegmilkmiiaaGreatDoor
theorem pf_laid : laidOutB Tryz.prog = true := by kernel_rfl
theorem pf_maps : mapsRowed Tryz.prog = true := by kernel_rfl
theorem pf_stops : (Tryz.prog.stops == []) = true := by kernel_rfl
theorem pf_knobs : (Tryz.prog.stopKnobs == []) = true := by kernel_rfl
theorem pf_heard : Tryz.prog.stopsHeard = true := by kernel_rfl
theorem pf_enter : Tryz.prog.mayEnter = true := by kernel_rfl
theorem pf_prog : Tryz.pinned.checked.prog = Tryz.prog := by kernel_rfl
end Go.Proofs.YtgejegmilkmiiaaGreatDoor
