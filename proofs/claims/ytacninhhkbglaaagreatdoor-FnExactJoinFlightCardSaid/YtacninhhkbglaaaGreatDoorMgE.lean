/-
  Texts of one claim, one behind the other.
-/
import Derived.BigQuiet
import Derived.Deep.CutBlock
import Derived.Deep.CutRange
import Derived.Deep.RegionHeld3
import Derived.Lib.QuietBelow
import Derived.Lib.SliceRun
import Derived.Test.YtacninhhkbglaaaGreatDoorMgD
/-
  What RequestFault and its model answer.
-/
namespace Go.Proofs.YtacninhhkbglaaaGreatDoor
open Go.ChangeShapes Go.WideShapes Go.ChangeAt Go.RowKit
theorem heads_sizes {l : List Hdr} (h : headsC l = 0) : l.length ≤ 20 ∧ ∀ (i : Nat) r, l[i]? = some r → r.name.size ≤ 64 ∧ r.value.size ≤ 200 := by
  obtain ⟨h1, h2⟩ := headsC_zero h
  refine ⟨h1, fun i r hr => ?_⟩
  obtain ⟨a, b, _⟩ := faultH_zero (h2 i r hr)
  exact ⟨hword_max a, b⟩
theorem lit_ne {m : ByteArray} {l : List UInt8} (h : ¬ m = ⟨l.toArray⟩) : (m.toList == l) = false := by
  rw [beq_eq_false_iff_ne, ByteArray.toList_eq]
  intro e
  apply h
  rw [← e]
theorem anyV_nil {vs : List ByteArray} (h : vs = []) : anyV vs = false := by subst h; rfl
theorem anyV_some {vs : List ByteArray} (h : vs ≠ []) : anyV vs = true := by simpa [anyV] using h
/-- A request, boxed. -/
def rqV (m h p : ByteArray) (a : Option Addr) (n cap : Nat) : Value := .agg #[.string m, .string h, .string p, .slice a n cap]
theorem reqJoin {l : List Hdr} (h : headsC l = 0) : (valsOf hostN l ≠ [] → joinC l ⟨#[72, 111, 115, 116]⟩ = 0) ∧ (valsOf hostN l = [] → joinC l ⟨#[72, 111, 115, 116]⟩ = 4) := by
  have e0 : askC l hostT = 0 := askC_word h hostT_word
  refine ⟨fun hv => ?_, fun hv => ?_⟩
  · exact (join_some e0 (by rw [hostT_low]; exact hv)).1
  · exact (join_none e0 (by rw [hostT_low]; exact hv)).1
set_option maxHeartbeats 4000000 in
theorem specReq_get (w : World) (h p : ByteArray) (a : Option Addr) (cap : Nat) (l : List Hdr) (hl : l.length ≤ 1048576) (hi : HdsIn w a l) :
    Calls Tryz.prog 160 #[.agg #[.string ⟨#[71, 69, 84]⟩, .string h, .string p, .slice a l.length cap]] w fun e w' => e = .returned (.int .i64 (reqC ⟨#[71, 69, 84]⟩ h p l)) ∧ Below w.heap.size w w' := by
  have HM : methS ⟨#[71, 69, 84]⟩ = true := by decide +kernel
  have CH := fun W => l5Host_any h W
  have CP := fun W => l5Path_any p W
  have bW : Below w.heap.size w (w.alloc (.cells #[.string ⟨#[71, 69, 84]⟩, .string h, .string p, .slice a l.length cap] 83)) := (Below.refl _ _).alloc (Nat.le_refl _) _
  cases ch : hostS h
  · have HE : Hid (reqC ⟨#[71, 69, 84]⟩ h p l = 5) := reqC_bad (by simp [lineS, ch])
    simp only [ch] at CH
    have HB : Hid (Below w.heap.size w (w.alloc (.cells #[.string ⟨#[71, 69, 84]⟩, .string h, .string p, .slice a l.length cap] 83))) := bW
    clear bW HM hi ch CP
    go_enter Tryz.func160, Tryz.ntmps160
    go_wp2_with (go_at_call 102; refine (CH _).mono ?_; rintro e w' ⟨rfl, rfl⟩)
    go_ret
    exact ⟨ret_int HE.out.symm, HB.out⟩
  simp only [ch] at CH
  cases cp : pathS p
  · have HE : Hid (reqC ⟨#[71, 69, 84]⟩ h p l = 5) := reqC_bad (by simp [lineS, cp])
    simp only [cp] at CP
    have HB : Hid (Below w.heap.size w (w.alloc (.cells #[.string ⟨#[71, 69, 84]⟩, .string h, .string p, .slice a l.length cap] 83))) := bW
    clear bW HM hi ch cp
    go_enter Tryz.func160, Tryz.ntmps160
    go_wp2_with (first | (go_at_call 102; refine (CH _).mono ?_; rintro e w' ⟨rfl, rfl⟩) | (go_at_call 212; refine (CP _).mono ?_; rintro e w' ⟨rfl, rfl⟩))
    go_ret
    exact ⟨ret_int HE.out.symm, HB.out⟩
  simp only [cp] at CP
  have hls : lineS ⟨#[71, 69, 84]⟩ h p = true := by simp [lineS, HM, ch, cp]
  have HR : Hid (reqC ⟨#[71, 69, 84]⟩ h p l = restC l) := reqC_ok hls
  obtain ⟨W, hW⟩ : ∃ W, W = w.alloc (.cells #[.string ⟨#[71, 69, 84]⟩, .string h, .string p, .slice a l.length cap] 83) := ⟨_, rfl⟩
  have HW : Hid (W = w.alloc (.cells #[.string ⟨#[71, 69, 84]⟩, .string h, .string p, .slice a l.length cap] 83)) := hW
  have hc3 : W.cell? ⟨w.heap.size, 3, none⟩ = some (.slice a l.length cap) := by rw [hW, World.cell?_alloc_mark]; rfl
  rw [← hW] at bW
  have hlt : w.heap.size < W.heap.size := by rw [hW]; simp
  have CF := specHFault_any W a cap l hl (hi.keep bW)
  have HI : Hid (HdsIn w a l) := hi
  have HB : Hid (Below w.heap.size w W) := bW
  clear hi bW hW ch cp hls HM
  go_enter Tryz.func160, Tryz.ntmps160
  go_wp2_with (first | (go_at_call 102; refine (CH _).mono ?_; rintro e w' ⟨rfl, rfl⟩) | (go_at_call 212; refine (CP _).mono ?_; rintro e w' ⟨rfl, rfl⟩))
  rw [← HW.out]
  refine CF.mono ?_
  rintro e w1 ⟨rfl, hb1⟩
  clear CF CH CP HW
  have hc3' : w1.cell? ⟨w.heap.size, 3, none⟩ = some (.slice a l.length cap) := by rw [hb1.cell (p := ⟨w.heap.size, 3, none⟩) hlt]; exact hc3
  have HB1 : Hid (Below w.heap.size w w1) := HB.out.trans (hb1.mono HB.out.size)
  have hlt1 : w.heap.size < w1.heap.size := Nat.lt_of_lt_of_le hlt hb1.size
  clear hb1 hc3 hlt HB
  by_cases c0 : headsC l = 0
  · obtain ⟨s1, s2⟩ := heads_sizes c0
    have CJ := l4Join_any w1 a cap l hostN s1 s2 (by decide) (HI.out.keep HB1.out)
    rw [hostN_low] at CJ
    have HJ : Hid (Calls Tryz.prog 213 #[.slice a l.length cap, .string ⟨#[104, 111, 115, 116]⟩] w1 fun e w' => e = .returned (.tuple #[.string ⟨(hjoinL (valsOf hostN l)).toArray⟩, .bool (anyV (valsOf hostN l))]) ∧ Below w1.heap.size w1 w') := CJ
    have HE1 : Hid (valsOf hostN l ≠ [] → restC l = 6) := fun hv => restC_host c0 hv
    have HE2 : Hid (valsOf hostN l = [] → 20 ≤ l.length → restC l = 2) := fun hv hn => restC_many c0 hv hn
    have HE3 : Hid (valsOf hostN l = [] → ¬ 20 ≤ l.length → restC l = 0) := fun hv hn => restC_ok c0 hv hn
    rw [c0]
    clear c0 s2 CJ HI
    generalize (⟨(hjoinL (valsOf hostN l)).toArray⟩ : ByteArray) = t at *
    go_wp2_with fail
    refine HJ.out.mono ?_
    rintro e w2 ⟨rfl, hb2⟩
    have hc4 : w2.cell? ⟨w.heap.size, 3, none⟩ = some (.slice a l.length cap) := by rw [hb2.cell (p := ⟨w.heap.size, 3, none⟩) hlt1]; exact hc3'
    have HB2 : Hid (Below w.heap.size w w2) := HB1.out.trans (hb2.mono HB1.out.size)
    clear hb2 HJ hc3' hlt1
    by_cases cv : valsOf hostN l = []
    · rw [anyV_nil cv]
      by_cases cn : 20 ≤ l.length
      · have HE : Hid (reqC ⟨#[71, 69, 84]⟩ h p l = 2) := by show _ = _; rw [HR.out]; exact HE2.out cv cn
        have cn' : (20 : Int) ≤ l.length := by omega
        clear HE1 HE2 HE3 HR cv cn
        generalize l.length = n at *
        go_wp2_with fail
        go_ret
        exact ⟨ret_int HE.out.symm, HB2.out⟩
      · have HE : Hid (reqC ⟨#[71, 69, 84]⟩ h p l = 0) := by show _ = _; rw [HR.out]; exact HE3.out cv cn
        have cn' : ¬ (20 : Int) ≤ l.length := by omega
        clear HE1 HE2 HE3 HR cv cn
        generalize l.length = n at *
        go_wp2_with fail
        go_ret
        exact ⟨ret_int HE.out.symm, HB2.out⟩
    · rw [anyV_some cv]
      have HE : Hid (reqC ⟨#[71, 69, 84]⟩ h p l = 6) := by show _ = _; rw [HR.out]; exact HE1.out cv
      clear HE1 HE2 HE3 HR cv
      go_wp2_with fail
      go_ret
      exact ⟨ret_int HE.out.symm, HB2.out⟩
  · have HE : Hid (reqC ⟨#[71, 69, 84]⟩ h p l = headsC l) := by show _ = _; rw [HR.out]; exact restC_heads c0
    clear HR HI
    generalize headsC l = c at *
    go_wp2_with fail
    go_ret
    exact ⟨ret_int HE.out.symm, HB1.out⟩
set_option maxHeartbeats 4000000 in
theorem specReq_head (w : World) (h p : ByteArray) (a : Option Addr) (cap : Nat) (l : List Hdr) (hl : l.length ≤ 1048576) (hi : HdsIn w a l) :
    Calls Tryz.prog 160 #[.agg #[.string ⟨#[72, 69, 65, 68]⟩, .string h, .string p, .slice a l.length cap]] w fun e w' => e = .returned (.int .i64 (reqC ⟨#[72, 69, 65, 68]⟩ h p l)) ∧ Below w.heap.size w w' := by
  have HM : methS ⟨#[72, 69, 65, 68]⟩ = true := by decide +kernel
  have CH := fun W => l5Host_any h W
  have CP := fun W => l5Path_any p W
  have bW : Below w.heap.size w (w.alloc (.cells #[.string ⟨#[72, 69, 65, 68]⟩, .string h, .string p, .slice a l.length cap] 83)) := (Below.refl _ _).alloc (Nat.le_refl _) _
  cases ch : hostS h
  · have HE : Hid (reqC ⟨#[72, 69, 65, 68]⟩ h p l = 5) := reqC_bad (by simp [lineS, ch])
    simp only [ch] at CH
    have HB : Hid (Below w.heap.size w (w.alloc (.cells #[.string ⟨#[72, 69, 65, 68]⟩, .string h, .string p, .slice a l.length cap] 83))) := bW
    clear bW HM hi ch CP
    go_enter Tryz.func160, Tryz.ntmps160
    go_wp2_with (go_at_call 102; refine (CH _).mono ?_; rintro e w' ⟨rfl, rfl⟩)
    go_ret
    exact ⟨ret_int HE.out.symm, HB.out⟩
  simp only [ch] at CH
  cases cp : pathS p
  · have HE : Hid (reqC ⟨#[72, 69, 65, 68]⟩ h p l = 5) := reqC_bad (by simp [lineS, cp])
    simp only [cp] at CP
    have HB : Hid (Below w.heap.size w (w.alloc (.cells #[.string ⟨#[72, 69, 65, 68]⟩, .string h, .string p, .slice a l.length cap] 83))) := bW
    clear bW HM hi ch cp
    go_enter Tryz.func160, Tryz.ntmps160
    go_wp2_with (first | (go_at_call 102; refine (CH _).mono ?_; rintro e w' ⟨rfl, rfl⟩) | (go_at_call 212; refine (CP _).mono ?_; rintro e w' ⟨rfl, rfl⟩))
    go_ret
    exact ⟨ret_int HE.out.symm, HB.out⟩
  simp only [cp] at CP
  have hls : lineS ⟨#[72, 69, 65, 68]⟩ h p = true := by simp [lineS, HM, ch, cp]
  have HR : Hid (reqC ⟨#[72, 69, 65, 68]⟩ h p l = restC l) := reqC_ok hls
  obtain ⟨W, hW⟩ : ∃ W, W = w.alloc (.cells #[.string ⟨#[72, 69, 65, 68]⟩, .string h, .string p, .slice a l.length cap] 83) := ⟨_, rfl⟩
  have HW : Hid (W = w.alloc (.cells #[.string ⟨#[72, 69, 65, 68]⟩, .string h, .string p, .slice a l.length cap] 83)) := hW
  have hc3 : W.cell? ⟨w.heap.size, 3, none⟩ = some (.slice a l.length cap) := by rw [hW, World.cell?_alloc_mark]; rfl
  rw [← hW] at bW
  have hlt : w.heap.size < W.heap.size := by rw [hW]; simp
  have CF := specHFault_any W a cap l hl (hi.keep bW)
  have HI : Hid (HdsIn w a l) := hi
  have HB : Hid (Below w.heap.size w W) := bW
  clear hi bW hW ch cp hls HM
  go_enter Tryz.func160, Tryz.ntmps160
  go_wp2_with (first | (go_at_call 102; refine (CH _).mono ?_; rintro e w' ⟨rfl, rfl⟩) | (go_at_call 212; refine (CP _).mono ?_; rintro e w' ⟨rfl, rfl⟩))
  rw [← HW.out]
  refine CF.mono ?_
  rintro e w1 ⟨rfl, hb1⟩
  clear CF CH CP HW
  have hc3' : w1.cell? ⟨w.heap.size, 3, none⟩ = some (.slice a l.length cap) := by rw [hb1.cell (p := ⟨w.heap.size, 3, none⟩) hlt]; exact hc3
  have HB1 : Hid (Below w.heap.size w w1) := HB.out.trans (hb1.mono HB.out.size)
  have hlt1 : w.heap.size < w1.heap.size := Nat.lt_of_lt_of_le hlt hb1.size
  clear hb1 hc3 hlt HB
  by_cases c0 : headsC l = 0
  · obtain ⟨s1, s2⟩ := heads_sizes c0
    have CJ := l4Join_any w1 a cap l hostN s1 s2 (by decide) (HI.out.keep HB1.out)
    rw [hostN_low] at CJ
    have HJ : Hid (Calls Tryz.prog 213 #[.slice a l.length cap, .string ⟨#[104, 111, 115, 116]⟩] w1 fun e w' => e = .returned (.tuple #[.string ⟨(hjoinL (valsOf hostN l)).toArray⟩, .bool (anyV (valsOf hostN l))]) ∧ Below w1.heap.size w1 w') := CJ
    have HE1 : Hid (valsOf hostN l ≠ [] → restC l = 6) := fun hv => restC_host c0 hv
    have HE2 : Hid (valsOf hostN l = [] → 20 ≤ l.length → restC l = 2) := fun hv hn => restC_many c0 hv hn
    have HE3 : Hid (valsOf hostN l = [] → ¬ 20 ≤ l.length → restC l = 0) := fun hv hn => restC_ok c0 hv hn
    rw [c0]
    clear c0 s2 CJ HI
    generalize (⟨(hjoinL (valsOf hostN l)).toArray⟩ : ByteArray) = t at *
    go_wp2_with fail
    refine HJ.out.mono ?_
    rintro e w2 ⟨rfl, hb2⟩
    have hc4 : w2.cell? ⟨w.heap.size, 3, none⟩ = some (.slice a l.length cap) := by rw [hb2.cell (p := ⟨w.heap.size, 3, none⟩) hlt1]; exact hc3'
    have HB2 : Hid (Below w.heap.size w w2) := HB1.out.trans (hb2.mono HB1.out.size)
    clear hb2 HJ hc3' hlt1
    by_cases cv : valsOf hostN l = []
    · rw [anyV_nil cv]
      by_cases cn : 20 ≤ l.length
      · have HE : Hid (reqC ⟨#[72, 69, 65, 68]⟩ h p l = 2) := by show _ = _; rw [HR.out]; exact HE2.out cv cn
        have cn' : (20 : Int) ≤ l.length := by omega
        clear HE1 HE2 HE3 HR cv cn
        generalize l.length = n at *
        go_wp2_with fail
        go_ret
        exact ⟨ret_int HE.out.symm, HB2.out⟩
      · have HE : Hid (reqC ⟨#[72, 69, 65, 68]⟩ h p l = 0) := by show _ = _; rw [HR.out]; exact HE3.out cv cn
        have cn' : ¬ (20 : Int) ≤ l.length := by omega
        clear HE1 HE2 HE3 HR cv cn
        generalize l.length = n at *
        go_wp2_with fail
        go_ret
        exact ⟨ret_int HE.out.symm, HB2.out⟩
    · rw [anyV_some cv]
      have HE : Hid (reqC ⟨#[72, 69, 65, 68]⟩ h p l = 6) := by show _ = _; rw [HR.out]; exact HE1.out cv
      clear HE1 HE2 HE3 HR cv
      go_wp2_with fail
      go_ret
      exact ⟨ret_int HE.out.symm, HB2.out⟩
  · have HE : Hid (reqC ⟨#[72, 69, 65, 68]⟩ h p l = headsC l) := by show _ = _; rw [HR.out]; exact restC_heads c0
    clear HR HI
    generalize headsC l = c at *
    go_wp2_with fail
    go_ret
    exact ⟨ret_int HE.out.symm, HB1.out⟩
set_option maxHeartbeats 1000000 in
theorem specReq_any (w : World) (m h p : ByteArray) (a : Option Addr) (cap : Nat) (l : List Hdr) (hl : l.length ≤ 1048576) (hi : HdsIn w a l) :
    Calls Tryz.prog 160 #[.agg #[.string m, .string h, .string p, .slice a l.length cap]] w fun e w' => e = .returned (.int .i64 (reqC m h p l)) ∧ Below w.heap.size w w' := by
  by_cases c1 : m = ⟨#[71, 69, 84]⟩
  · subst c1; exact specReq_get w h p a cap l hl hi
  by_cases c2 : m = ⟨#[72, 69, 65, 68]⟩
  · subst c2; exact specReq_head w h p a cap l hl hi
  have HE : Hid (reqC m h p l = 5) := reqC_bad (by
    have : methS m = false := by simp only [methS, getT, headT, c1, c2, decide_false]; rfl
    simp [lineS, this])
  have d1 : (m.toList == [71, 69, 84]) = false := lit_ne c1
  have d2 : (m.toList == [72, 69, 65, 68]) = false := lit_ne c2
  clear c1 c2
  clear hi
  go_enter Tryz.func160, Tryz.ntmps160
  go_wp2_with fail
  go_ret
  exact ⟨ret_int HE.out.symm, (Below.refl _ _).alloc (Nat.le_refl _) _⟩
set_option maxHeartbeats 8000000 in
theorem implReq_get (E : Errs) (w : World) (h p : ByteArray) (a : Option Addr) (cap : Nat) (l : List Hdr) (hl : l.length ≤ 1048576) (hcap : l.length ≤ cap) (hps : p.size ≤ 1048576) (hset : SetIs w) (hE : ErrsIs w E) (hi : HdsIn w a l) :
    Calls Tryz.prog 252 #[.agg #[.string ⟨#[71, 69, 84]⟩, .string h, .string p, .slice a l.length cap]] w fun e w' => e = .returned (errV E (reqC ⟨#[71, 69, 84]⟩ h p l)) ∧ Below w.heap.size w w' := by
  have HM : methS ⟨#[71, 69, 84]⟩ = true := by decide +kernel
  obtain ⟨W, hW⟩ : ∃ W, W = w.alloc (.cells #[.string ⟨#[71, 69, 84]⟩, .string h, .string p, .slice a l.length cap] 83) := ⟨_, rfl⟩
  have bW : Below w.heap.size w W := by rw [hW]; exact (Below.refl _ _).alloc (Nat.le_refl _) _
  have HW : Hid (W = w.alloc (.cells #[.string ⟨#[71, 69, 84]⟩, .string h, .string p, .slice a l.length cap] 83)) := hW
  have hlt : w.heap.size < W.heap.size := by rw [hW]; simp
  have hc2 : W.cell? ⟨w.heap.size, 2, none⟩ = some (.string p) := by rw [hW, World.cell?_alloc_mark]; rfl
  have hc3 : W.cell? ⟨w.heap.size, 3, none⟩ = some (.slice a l.length cap) := by rw [hW, World.cell?_alloc_mark]; rfl
  clear hW
  have CH := isHost_any h W
  have HI : Hid (∀ X, Below w.heap.size w X → HdsIn X a l) := fun X hb => hi.keep hb
  have HS : Hid (∀ X, Below w.heap.size w X → SetIs X) := fun X hb => hset.below hb
  have HE0 : Hid (∀ X, Below w.heap.size w X → ErrsIs X E) := fun X hb => hE.below hb
  have HB : Hid (Below w.heap.size w W) := bW
  clear hi hset hE bW
  cases ch : hostS h
  · have HE : Hid (errV E (reqC ⟨#[71, 69, 84]⟩ h p l) = .iface 396 (.pointer (some E.u))) := by show _ = _; rw [reqC_bad (by simp [lineS, ch])]; rfl
    simp only [ch] at CH
    clear HM ch hc2 hc3 hlt
    go_enter Tryz.func252, Tryz.ntmps252
    go_wp2_with fail
    rw [← HW.out]
    refine CH.mono ?_
    rintro e w1 ⟨rfl, hb1⟩
    have HB1 : Hid (Below w.heap.size w w1) := HB.out.trans (hb1.mono HB.out.size)
    have gU := (HE0.out _ HB1.out).gU
    clear CH HW hb1 HB HE0
    go_wp2_with fail
    go_ret
    exact ⟨congrArg Ending.returned HE.out.symm, HB1.out⟩
  simp only [ch] at CH
  have CP : Hid (∀ X, Below w.heap.size w X → Calls Tryz.prog 266 #[.string p] X fun e w' => e = .returned (.bool (pathS p)) ∧ Below X.heap.size X w') := fun X hb => isPath_any p X (HS.out X hb) hps
  cases cp : pathS p
  · have HE : Hid (errV E (reqC ⟨#[71, 69, 84]⟩ h p l) = .iface 396 (.pointer (some E.u))) := by show _ = _; rw [reqC_bad (by simp [lineS, cp])]; rfl
    rw [cp] at CP
    clear HM ch cp hc3 hps
    go_enter Tryz.func252, Tryz.ntmps252
    go_wp2_with fail
    rw [← HW.out]
    refine CH.mono ?_
    rintro e w1 ⟨rfl, hb1⟩
    have HB1 : Hid (Below w.heap.size w w1) := HB.out.trans (hb1.mono HB.out.size)
    have hc2' : w1.cell? ⟨w.heap.size, 2, none⟩ = some (.string p) := by rw [hb1.cell (p := ⟨w.heap.size, 2, none⟩) hlt]; exact hc2
    clear CH HW hb1 HB hc2 hlt
    have C2 := CP.out w1 HB1.out
    go_wp2_with fail
    refine C2.mono ?_
    rintro e w2 ⟨rfl, hb2⟩
    have HB2 : Hid (Below w.heap.size w w2) := HB1.out.trans (hb2.mono HB1.out.size)
    have gU := (HE0.out _ HB2.out).gU
    clear C2 CP hb2 HB1 HE0 hc2'
    go_wp2_with fail
    go_ret
    exact ⟨congrArg Ending.returned HE.out.symm, HB2.out⟩
  rw [cp] at CP
  have hls : lineS ⟨#[71, 69, 84]⟩ h p = true := by simp [lineS, HM, ch, cp]
  have HR : Hid (reqC ⟨#[71, 69, 84]⟩ h p l = restC l) := reqC_ok hls
  have HK := headsC_codes l
  have CF : Hid (∀ X, Below w.heap.size w X → Calls Tryz.prog 193 #[.slice a l.length cap] X fun e w' => e = .returned (.int .i64 (headsC l)) ∧ Below X.heap.size X w') := fun X hb => implHFault_any X a cap l hl (HS.out X hb) (HI.out X hb)
  clear hls HM ch cp hps
  go_enter Tryz.func252, Tryz.ntmps252
  go_wp2_with fail
  rw [← HW.out]
  refine CH.mono ?_
  rintro e w1 ⟨rfl, hb1⟩
  have HB1 : Hid (Below w.heap.size w w1) := HB.out.trans (hb1.mono HB.out.size)
  have hc2' : w1.cell? ⟨w.heap.size, 2, none⟩ = some (.string p) := by rw [hb1.cell (p := ⟨w.heap.size, 2, none⟩) hlt]; exact hc2
  have hc3' : w1.cell? ⟨w.heap.size, 3, none⟩ = some (.slice a l.length cap) := by rw [hb1.cell (p := ⟨w.heap.size, 3, none⟩) hlt]; exact hc3
  have hlt1 : w.heap.size < w1.heap.size := Nat.lt_of_lt_of_le hlt hb1.size
  clear CH HW hb1 HB hc2 hc3 hlt
  have C2 := CP.out w1 HB1.out
  go_wp2_with fail
  refine C2.mono ?_
  rintro e w2 ⟨rfl, hb2⟩
  have HB2 : Hid (Below w.heap.size w w2) := HB1.out.trans (hb2.mono HB1.out.size)
  have hc3 : w2.cell? ⟨w.heap.size, 3, none⟩ = some (.slice a l.length cap) := by rw [hb2.cell (p := ⟨w.heap.size, 3, none⟩) hlt1]; exact hc3'
  have hlt2 : w.heap.size < w2.heap.size := Nat.lt_of_lt_of_le hlt1 hb2.size
  clear C2 CP hb2 HB1 hc2' hc3' hlt1
  have C3 := CF.out w2 HB2.out
  go_wp2_with fail
  refine C3.mono ?_
  rintro e w3 ⟨rfl, hb3⟩
  have HB3 : Hid (Below w.heap.size w w3) := HB2.out.trans (hb3.mono HB2.out.size)
  have hc3' : w3.cell? ⟨w.heap.size, 3, none⟩ = some (.slice a l.length cap) := by rw [hb3.cell (p := ⟨w.heap.size, 3, none⟩) hlt2]; exact hc3
  have hlt3 : w.heap.size < w3.heap.size := Nat.lt_of_lt_of_le hlt2 hb3.size
  clear C3 CF hb3 HB2 hc3 hlt2
  have C4 := headError_any E (headsC l) w3 (HE0.out _ HB3.out) HK
  by_cases c0 : headsC l = 0
  · rw [c0] at C4
    rw [errV0] at C4
    rw [c0]
    have CJ : Calls Tryz.prog 268 #[.slice a l.length cap, .string ⟨#[72, 111, 115, 116]⟩] w3 fun e w' => e = .returned (.agg #[.int .i64 (joinC l ⟨#[72, 111, 115, 116]⟩), .string (joinT l ⟨#[72, 111, 115, 116]⟩)]) ∧ Below w3.heap.size w3 w' := implJoin_any w3 a cap l ⟨#[72, 111, 115, 116]⟩ hl hcap (HS.out _ HB3.out) (HI.out _ HB3.out)
    obtain ⟨hj1, hj2⟩ := reqJoin c0
    have HJ : Hid (Calls Tryz.prog 268 #[.slice a l.length cap, .string ⟨#[72, 111, 115, 116]⟩] w3 fun e w' => e = .returned (.agg #[.int .i64 (joinC l ⟨#[72, 111, 115, 116]⟩), .string (joinT l ⟨#[72, 111, 115, 116]⟩)]) ∧ Below w3.heap.size w3 w') := CJ
    clear CJ
    generalize joinT l ⟨#[72, 111, 115, 116]⟩ = jt at *
    by_cases cv : valsOf hostN l = []
    · rw [hj2 cv] at HJ
      have HN := (headsC_zero c0).1
      clear hj1 hj2 HI HS HK
      by_cases cn : 20 ≤ l.length
      · have HE : Hid (errV E (reqC ⟨#[71, 69, 84]⟩ h p l) = .iface 396 (.pointer (some E.m))) := by show _ = _; rw [HR.out, restC_many c0 cv cn]; rfl
        have cn' : (l.length : Int) = 20 := by omega
        have cb : ((l.length : Int) == 20) = true := by rw [cn']; rfl
        clear HR cv cn cn' c0
        generalize l.length = n at *
        go_wp2_with fail
        refine C4.mono ?_
        rintro e w4 ⟨rfl, hw⟩
        obtain rfl := hw.symm
        clear C4 hw
        go_wp2_with fail
        refine HJ.out.mono ?_
        rintro e w5 ⟨rfl, hb5⟩
        have hc5 : w5.cell? ⟨w.heap.size, 3, none⟩ = some (.slice a n cap) := by rw [hb5.cell (p := ⟨w.heap.size, 3, none⟩) hlt3]; exact hc3'
        have HB5 : Hid (Below w.heap.size w w5) := HB3.out.trans (hb5.mono HB3.out.size)
        have gM := (HE0.out _ HB5.out).gM
        clear hb5 HJ hc3' hlt3 HB3 HE0
        have hfc := f_field_code
        go_wp2_with fail
        go_ret
        exact ⟨congrArg Ending.returned HE.out.symm, HB5.out⟩
      · have HE : Hid (errV E (reqC ⟨#[71, 69, 84]⟩ h p l) = .nilIface) := by show _ = _; rw [HR.out, restC_ok c0 cv cn]; rfl
        have cb : ((l.length : Int) == 20) = false := by rw [beq_eq_false_iff_ne]; omega
        clear HR cv cn c0 HE0
        generalize l.length = n at *
        go_wp2_with fail
        refine C4.mono ?_
        rintro e w4 ⟨rfl, hw⟩
        obtain rfl := hw.symm
        clear C4 hw
        go_wp2_with fail
        refine HJ.out.mono ?_
        rintro e w5 ⟨rfl, hb5⟩
        have hc5 : w5.cell? ⟨w.heap.size, 3, none⟩ = some (.slice a n cap) := by rw [hb5.cell (p := ⟨w.heap.size, 3, none⟩) hlt3]; exact hc3'
        have HB5 : Hid (Below w.heap.size w w5) := HB3.out.trans (hb5.mono HB3.out.size)
        clear hb5 HJ hc3' hlt3 HB3
        have hfc := f_field_code
        go_wp2_with fail
        go_ret
        exact ⟨congrArg Ending.returned HE.out.symm, HB5.out⟩
    · rw [hj1 cv] at HJ
      have HE : Hid (errV E (reqC ⟨#[71, 69, 84]⟩ h p l) = .iface 396 (.pointer (some E.d))) := by show _ = _; rw [HR.out, restC_host c0 cv]; rfl
      clear hj1 hj2 HI HS HK HR cv c0
      generalize l.length = n at *
      go_wp2_with fail
      refine C4.mono ?_
      rintro e w4 ⟨rfl, hw⟩
      obtain rfl := hw.symm
      clear C4 hw
      go_wp2_with fail
      refine HJ.out.mono ?_
      rintro e w5 ⟨rfl, hb5⟩
      have HB5 : Hid (Below w.heap.size w w5) := HB3.out.trans (hb5.mono HB3.out.size)
      have gD := (HE0.out _ HB5.out).gD
      clear hb5 HJ hc3' hlt3 HB3 HE0
      have hfc := f_field_code
      go_wp2_with fail
      go_ret
      exact ⟨congrArg Ending.returned HE.out.symm, HB5.out⟩
  · have HE : Hid (errV E (reqC ⟨#[71, 69, 84]⟩ h p l) = errV E (headsC l)) := by show _ = _; rw [HR.out, restC_heads c0]
    have hv : ∃ x, errV E (headsC l) = .iface 396 (.pointer (some x)) := by
      rcases HK with e | e | e
      · exact absurd e c0
      · rw [e]; exact ⟨_, rfl⟩
      · rw [e]; exact ⟨_, rfl⟩
    obtain ⟨x, hx⟩ := hv
    rw [hx] at C4 HE
    clear HR HI HS HK HE0 c0 hx
    generalize headsC l = c at *
    generalize l.length = n at *
    go_wp2_with fail
    refine C4.mono ?_
    rintro e w4 ⟨rfl, hw⟩
    obtain rfl := hw.symm
    clear C4 hw
    go_wp2_with fail
    go_ret
    exact ⟨congrArg Ending.returned HE.out.symm, HB3.out⟩
set_option maxHeartbeats 8000000 in
theorem implReq_head (E : Errs) (w : World) (h p : ByteArray) (a : Option Addr) (cap : Nat) (l : List Hdr) (hl : l.length ≤ 1048576) (hcap : l.length ≤ cap) (hps : p.size ≤ 1048576) (hset : SetIs w) (hE : ErrsIs w E) (hi : HdsIn w a l) :
    Calls Tryz.prog 252 #[.agg #[.string ⟨#[72, 69, 65, 68]⟩, .string h, .string p, .slice a l.length cap]] w fun e w' => e = .returned (errV E (reqC ⟨#[72, 69, 65, 68]⟩ h p l)) ∧ Below w.heap.size w w' := by
  have HM : methS ⟨#[72, 69, 65, 68]⟩ = true := by decide +kernel
  obtain ⟨W, hW⟩ : ∃ W, W = w.alloc (.cells #[.string ⟨#[72, 69, 65, 68]⟩, .string h, .string p, .slice a l.length cap] 83) := ⟨_, rfl⟩
  have bW : Below w.heap.size w W := by rw [hW]; exact (Below.refl _ _).alloc (Nat.le_refl _) _
  have HW : Hid (W = w.alloc (.cells #[.string ⟨#[72, 69, 65, 68]⟩, .string h, .string p, .slice a l.length cap] 83)) := hW
  have hlt : w.heap.size < W.heap.size := by rw [hW]; simp
  have hc2 : W.cell? ⟨w.heap.size, 2, none⟩ = some (.string p) := by rw [hW, World.cell?_alloc_mark]; rfl
  have hc3 : W.cell? ⟨w.heap.size, 3, none⟩ = some (.slice a l.length cap) := by rw [hW, World.cell?_alloc_mark]; rfl
  clear hW
  have CH := isHost_any h W
  have HI : Hid (∀ X, Below w.heap.size w X → HdsIn X a l) := fun X hb => hi.keep hb
  have HS : Hid (∀ X, Below w.heap.size w X → SetIs X) := fun X hb => hset.below hb
  have HE0 : Hid (∀ X, Below w.heap.size w X → ErrsIs X E) := fun X hb => hE.below hb
  have HB : Hid (Below w.heap.size w W) := bW
  clear hi hset hE bW
  cases ch : hostS h
  · have HE : Hid (errV E (reqC ⟨#[72, 69, 65, 68]⟩ h p l) = .iface 396 (.pointer (some E.u))) := by show _ = _; rw [reqC_bad (by simp [lineS, ch])]; rfl
    simp only [ch] at CH
    clear HM ch hc2 hc3 hlt
    go_enter Tryz.func252, Tryz.ntmps252
    go_wp2_with fail
    rw [← HW.out]
    refine CH.mono ?_
    rintro e w1 ⟨rfl, hb1⟩
    have HB1 : Hid (Below w.heap.size w w1) := HB.out.trans (hb1.mono HB.out.size)
    have gU := (HE0.out _ HB1.out).gU
    clear CH HW hb1 HB HE0
    go_wp2_with fail
    go_ret
    exact ⟨congrArg Ending.returned HE.out.symm, HB1.out⟩
  simp only [ch] at CH
  have CP : Hid (∀ X, Below w.heap.size w X → Calls Tryz.prog 266 #[.string p] X fun e w' => e = .returned (.bool (pathS p)) ∧ Below X.heap.size X w') := fun X hb => isPath_any p X (HS.out X hb) hps
  cases cp : pathS p
  · have HE : Hid (errV E (reqC ⟨#[72, 69, 65, 68]⟩ h p l) = .iface 396 (.pointer (some E.u))) := by show _ = _; rw [reqC_bad (by simp [lineS, cp])]; rfl
    rw [cp] at CP
    clear HM ch cp hc3 hps
    go_enter Tryz.func252, Tryz.ntmps252
    go_wp2_with fail
    rw [← HW.out]
    refine CH.mono ?_
    rintro e w1 ⟨rfl, hb1⟩
    have HB1 : Hid (Below w.heap.size w w1) := HB.out.trans (hb1.mono HB.out.size)
    have hc2' : w1.cell? ⟨w.heap.size, 2, none⟩ = some (.string p) := by rw [hb1.cell (p := ⟨w.heap.size, 2, none⟩) hlt]; exact hc2
    clear CH HW hb1 HB hc2 hlt
    have C2 := CP.out w1 HB1.out
    go_wp2_with fail
    refine C2.mono ?_
    rintro e w2 ⟨rfl, hb2⟩
    have HB2 : Hid (Below w.heap.size w w2) := HB1.out.trans (hb2.mono HB1.out.size)
    have gU := (HE0.out _ HB2.out).gU
    clear C2 CP hb2 HB1 HE0 hc2'
    go_wp2_with fail
    go_ret
    exact ⟨congrArg Ending.returned HE.out.symm, HB2.out⟩
  rw [cp] at CP
  have hls : lineS ⟨#[72, 69, 65, 68]⟩ h p = true := by simp [lineS, HM, ch, cp]
  have HR : Hid (reqC ⟨#[72, 69, 65, 68]⟩ h p l = restC l) := reqC_ok hls
  have HK := headsC_codes l
  have CF : Hid (∀ X, Below w.heap.size w X → Calls Tryz.prog 193 #[.slice a l.length cap] X fun e w' => e = .returned (.int .i64 (headsC l)) ∧ Below X.heap.size X w') := fun X hb => implHFault_any X a cap l hl (HS.out X hb) (HI.out X hb)
  clear hls HM ch cp hps
  go_enter Tryz.func252, Tryz.ntmps252
  go_wp2_with fail
  rw [← HW.out]
  refine CH.mono ?_
  rintro e w1 ⟨rfl, hb1⟩
  have HB1 : Hid (Below w.heap.size w w1) := HB.out.trans (hb1.mono HB.out.size)
  have hc2' : w1.cell? ⟨w.heap.size, 2, none⟩ = some (.string p) := by rw [hb1.cell (p := ⟨w.heap.size, 2, none⟩) hlt]; exact hc2
  have hc3' : w1.cell? ⟨w.heap.size, 3, none⟩ = some (.slice a l.length cap) := by rw [hb1.cell (p := ⟨w.heap.size, 3, none⟩) hlt]; exact hc3
  have hlt1 : w.heap.size < w1.heap.size := Nat.lt_of_lt_of_le hlt hb1.size
  clear CH HW hb1 HB hc2 hc3 hlt
  have C2 := CP.out w1 HB1.out
  go_wp2_with fail
  refine C2.mono ?_
  rintro e w2 ⟨rfl, hb2⟩
  have HB2 : Hid (Below w.heap.size w w2) := HB1.out.trans (hb2.mono HB1.out.size)
  have hc3 : w2.cell? ⟨w.heap.size, 3, none⟩ = some (.slice a l.length cap) := by rw [hb2.cell (p := ⟨w.heap.size, 3, none⟩) hlt1]; exact hc3'
  have hlt2 : w.heap.size < w2.heap.size := Nat.lt_of_lt_of_le hlt1 hb2.size
  clear C2 CP hb2 HB1 hc2' hc3' hlt1
  have C3 := CF.out w2 HB2.out
  go_wp2_with fail
  refine C3.mono ?_
  rintro e w3 ⟨rfl, hb3⟩
  have HB3 : Hid (Below w.heap.size w w3) := HB2.out.trans (hb3.mono HB2.out.size)
  have hc3' : w3.cell? ⟨w.heap.size, 3, none⟩ = some (.slice a l.length cap) := by rw [hb3.cell (p := ⟨w.heap.size, 3, none⟩) hlt2]; exact hc3
  have hlt3 : w.heap.size < w3.heap.size := Nat.lt_of_lt_of_le hlt2 hb3.size
  clear C3 CF hb3 HB2 hc3 hlt2
  have C4 := headError_any E (headsC l) w3 (HE0.out _ HB3.out) HK
  by_cases c0 : headsC l = 0
  · rw [c0] at C4
    rw [errV0] at C4
    rw [c0]
    have CJ : Calls Tryz.prog 268 #[.slice a l.length cap, .string ⟨#[72, 111, 115, 116]⟩] w3 fun e w' => e = .returned (.agg #[.int .i64 (joinC l ⟨#[72, 111, 115, 116]⟩), .string (joinT l ⟨#[72, 111, 115, 116]⟩)]) ∧ Below w3.heap.size w3 w' := implJoin_any w3 a cap l ⟨#[72, 111, 115, 116]⟩ hl hcap (HS.out _ HB3.out) (HI.out _ HB3.out)
    obtain ⟨hj1, hj2⟩ := reqJoin c0
    have HJ : Hid (Calls Tryz.prog 268 #[.slice a l.length cap, .string ⟨#[72, 111, 115, 116]⟩] w3 fun e w' => e = .returned (.agg #[.int .i64 (joinC l ⟨#[72, 111, 115, 116]⟩), .string (joinT l ⟨#[72, 111, 115, 116]⟩)]) ∧ Below w3.heap.size w3 w') := CJ
    clear CJ
    generalize joinT l ⟨#[72, 111, 115, 116]⟩ = jt at *
    by_cases cv : valsOf hostN l = []
    · rw [hj2 cv] at HJ
      have HN := (headsC_zero c0).1
      clear hj1 hj2 HI HS HK
      by_cases cn : 20 ≤ l.length
      · have HE : Hid (errV E (reqC ⟨#[72, 69, 65, 68]⟩ h p l) = .iface 396 (.pointer (some E.m))) := by show _ = _; rw [HR.out, restC_many c0 cv cn]; rfl
        have cn' : (l.length : Int) = 20 := by omega
        have cb : ((l.length : Int) == 20) = true := by rw [cn']; rfl
        clear HR cv cn cn' c0
        generalize l.length = n at *
        go_wp2_with fail
        refine C4.mono ?_
        rintro e w4 ⟨rfl, hw⟩
        obtain rfl := hw.symm
        clear C4 hw
        go_wp2_with fail
        refine HJ.out.mono ?_
        rintro e w5 ⟨rfl, hb5⟩
        have hc5 : w5.cell? ⟨w.heap.size, 3, none⟩ = some (.slice a n cap) := by rw [hb5.cell (p := ⟨w.heap.size, 3, none⟩) hlt3]; exact hc3'
        have HB5 : Hid (Below w.heap.size w w5) := HB3.out.trans (hb5.mono HB3.out.size)
        have gM := (HE0.out _ HB5.out).gM
        clear hb5 HJ hc3' hlt3 HB3 HE0
        have hfc := f_field_code
        go_wp2_with fail
        go_ret
        exact ⟨congrArg Ending.returned HE.out.symm, HB5.out⟩
      · have HE : Hid (errV E (reqC ⟨#[72, 69, 65, 68]⟩ h p l) = .nilIface) := by show _ = _; rw [HR.out, restC_ok c0 cv cn]; rfl
        have cb : ((l.length : Int) == 20) = false := by rw [beq_eq_false_iff_ne]; omega
        clear HR cv cn c0 HE0
        generalize l.length = n at *
        go_wp2_with fail
        refine C4.mono ?_
        rintro e w4 ⟨rfl, hw⟩
        obtain rfl := hw.symm
        clear C4 hw
        go_wp2_with fail
        refine HJ.out.mono ?_
        rintro e w5 ⟨rfl, hb5⟩
        have hc5 : w5.cell? ⟨w.heap.size, 3, none⟩ = some (.slice a n cap) := by rw [hb5.cell (p := ⟨w.heap.size, 3, none⟩) hlt3]; exact hc3'
        have HB5 : Hid (Below w.heap.size w w5) := HB3.out.trans (hb5.mono HB3.out.size)
        clear hb5 HJ hc3' hlt3 HB3
        have hfc := f_field_code
        go_wp2_with fail
        go_ret
        exact ⟨congrArg Ending.returned HE.out.symm, HB5.out⟩
    · rw [hj1 cv] at HJ
      have HE : Hid (errV E (reqC ⟨#[72, 69, 65, 68]⟩ h p l) = .iface 396 (.pointer (some E.d))) := by show _ = _; rw [HR.out, restC_host c0 cv]; rfl
      clear hj1 hj2 HI HS HK HR cv c0
      generalize l.length = n at *
      go_wp2_with fail
      refine C4.mono ?_
      rintro e w4 ⟨rfl, hw⟩
      obtain rfl := hw.symm
      clear C4 hw
      go_wp2_with fail
      refine HJ.out.mono ?_
      rintro e w5 ⟨rfl, hb5⟩
      have HB5 : Hid (Below w.heap.size w w5) := HB3.out.trans (hb5.mono HB3.out.size)
      have gD := (HE0.out _ HB5.out).gD
      clear hb5 HJ hc3' hlt3 HB3 HE0
      have hfc := f_field_code
      go_wp2_with fail
      go_ret
      exact ⟨congrArg Ending.returned HE.out.symm, HB5.out⟩
  · have HE : Hid (errV E (reqC ⟨#[72, 69, 65, 68]⟩ h p l) = errV E (headsC l)) := by show _ = _; rw [HR.out, restC_heads c0]
    have hv : ∃ x, errV E (headsC l) = .iface 396 (.pointer (some x)) := by
      rcases HK with e | e | e
      · exact absurd e c0
      · rw [e]; exact ⟨_, rfl⟩
      · rw [e]; exact ⟨_, rfl⟩
    obtain ⟨x, hx⟩ := hv
    rw [hx] at C4 HE
    clear HR HI HS HK HE0 c0 hx
    generalize headsC l = c at *
    generalize l.length = n at *
    go_wp2_with fail
    refine C4.mono ?_
    rintro e w4 ⟨rfl, hw⟩
    obtain rfl := hw.symm
    clear C4 hw
    go_wp2_with fail
    go_ret
    exact ⟨congrArg Ending.returned HE.out.symm, HB3.out⟩
set_option maxHeartbeats 1000000 in
theorem implReqE_any (E : Errs) (w : World) (m h p : ByteArray) (a : Option Addr) (cap : Nat) (l : List Hdr) (hl : l.length ≤ 1048576) (hcap : l.length ≤ cap) (hps : p.size ≤ 1048576) (hset : SetIs w) (hE : ErrsIs w E) (hi : HdsIn w a l) :
    Calls Tryz.prog 252 #[.agg #[.string m, .string h, .string p, .slice a l.length cap]] w fun e w' => e = .returned (errV E (reqC m h p l)) ∧ Below w.heap.size w w' := by
  by_cases c1 : m = ⟨#[71, 69, 84]⟩
  · subst c1; exact implReq_get E w h p a cap l hl hcap hps hset hE hi
  by_cases c2 : m = ⟨#[72, 69, 65, 68]⟩
  · subst c2; exact implReq_head E w h p a cap l hl hcap hps hset hE hi
  have HE : Hid (errV E (reqC m h p l) = .iface 396 (.pointer (some E.u))) := by
    show _ = _
    rw [reqC_bad (by
      have : methS m = false := by simp only [methS, getT, headT, c1, c2, decide_false]; rfl
      simp [lineS, this])]
    rfl
  have d1 : (m.toList == [71, 69, 84]) = false := lit_ne c1
  have d2 : (m.toList == [72, 69, 65, 68]) = false := lit_ne c2
  clear c1 c2
  have HB : Hid (Below w.heap.size w (w.alloc (.cells #[.string m, .string h, .string p, .slice a l.length cap] 83))) := (Below.refl _ _).alloc (Nat.le_refl _) _
  have gU := (hE.below HB.out).gU
  clear hi hset hE
  generalize l.length = n at *
  go_enter Tryz.func252, Tryz.ntmps252
  go_wp2_with fail
  go_ret
  exact ⟨congrArg Ending.returned HE.out.symm, HB.out⟩
set_option maxHeartbeats 1000000 in
theorem implReq_any (E : Errs) (w : World) (m h p : ByteArray) (a : Option Addr) (cap : Nat) (l : List Hdr) (hl : l.length ≤ 1048576) (hcap : l.length ≤ cap) (hps : p.size ≤ 1048576) (hset : SetIs w) (hE : ErrsIs w E) (hi : HdsIn w a l) :
    Calls Tryz.prog 216 #[.agg #[.string m, .string h, .string p, .slice a l.length cap]] w fun e w' => e = .returned (.int .i64 (reqC m h p l)) ∧ Below w.heap.size w w' := by
  have bW : Below w.heap.size w (w.alloc (.cells #[.string m, .string h, .string p, .slice a l.length cap] 83)) := (Below.refl _ _).alloc (Nat.le_refl _) _
  have C1 := implReqE_any E _ m h p a cap l hl hcap hps (hset.below bW) (hE.below bW) (hi.keep bW)
  have HK := reqC_codes m h p l
  have C2 : Hid (∀ X, ErrsIs X E → Calls Tryz.prog 251 #[errV E (reqC m h p l)] X fun e w' => e = .returned (.int .i64 (reqC m h p l)) ∧ w' = X) := fun X hX => codeOf_any E _ X hX (by omega)
  have HE0 : Hid (∀ X, Below w.heap.size w X → ErrsIs X E) := fun X hb => hE.below hb
  have HB : Hid (Below w.heap.size w (w.alloc (.cells #[.string m, .string h, .string p, .slice a l.length cap] 83))) := bW
  clear hi hset hE HK bW
  generalize reqC m h p l = c at *
  generalize l.length = n at *
  generalize errV E c = ev at *
  go_enter Tryz.func216, Tryz.ntmps216
  go_wp2_with fail
  refine C1.mono ?_
  rintro e w1 ⟨rfl, hb1⟩
  have HB1 : Hid (Below w.heap.size w w1) := HB.out.trans (hb1.mono HB.out.size)
  have C3 := C2.out w1 (HE0.out _ HB1.out)
  clear hb1 HB C1 C2 HE0
  go_wp2_with fail
  refine C3.mono ?_
  rintro e w2 ⟨rfl, hw⟩
  obtain rfl := hw.symm
  clear hw C3
  go_wp2_with fail
  go_ret
  exact ⟨rfl, HB1.out⟩
end Go.Proofs.YtacninhhkbglaaaGreatDoor
/-
  The fault of a flight, by the program: pieces.
-/
namespace Go.Proofs.YtacninhhkbglaaaGreatDoor
open Go.ChangeShapes Go.WideShapes Go.ChangeAt Go.RowKit Go.Sort
theorem within_time (x : Int) (w : World) : Calls Tryz.prog 50 #[.int .i64 x, .int .i64 0, .int .i64 1000000000000000] w fun r w' => r = .returned (.bool (timeB x)) ∧ w' = w := isWithin_all x 0 1000000000000000 w
set_option maxHeartbeats 2000000 in
theorem inBounds_any (w : World) (id : Int) (bk ot : Bool) (du : Int) (dm : Bool) :
    Calls Tryz.prog 163 #[.agg #[.int .i64 id, .bool bk, .bool ot, .int .i64 du, .bool dm]] w fun e w' => e = .returned (.bool (timeB id && timeB du)) ∧ Below w.heap.size w w' := by
  have HB : Hid (Below w.heap.size w (w.alloc (.cells #[.int .i64 id, .bool bk, .bool ot, .int .i64 du, .bool dm] 148))) := (Below.refl _ _).alloc (Nat.le_refl _) _
  have H1 : Hid (∀ x X, Calls Tryz.prog 50 #[.int .i64 x, .int .i64 0, .int .i64 1000000000000000] X fun r w' => r = .returned (.bool (timeB x)) ∧ w' = X) := within_time
  have H2 : Hid (∀ x X, Calls Tryz.prog 49 #[.int .i64 x] X fun r w' => r = .returned (.bool (timeB x)) ∧ w' = X) := isTime_all
  obtain ⟨Z, hZ⟩ : ∃ Z, Hid ((timeB id && timeB du) = Z) := ⟨_, rfl⟩
  rw [hZ.out]
  go_enter Tryz.func163, Tryz.ntmps163
  go_wp2_with fail
  refine (H1.out _ _).mono ?_
  rintro z w1 ⟨rfl, rfl⟩
  generalize timeB id = t1 at *
  cases t1
  · have HR : Hid (false = Z) := hZ.out
    clear hZ
    go_wp2_with fail
    go_ret
    exact ⟨ret_bool HR.out, HB.out⟩
  · go_wp2_with fail
    refine (H2.out _ _).mono ?_
    rintro z w1 ⟨rfl, rfl⟩
    generalize timeB du = t2 at *
    have HR : Hid (t2 = Z) := by have z := hZ.out; rw [Bool.true_and] at z; exact z
    clear hZ
    go_wp2_with fail
    go_ret
    exact ⟨ret_bool HR.out, HB.out⟩
set_option maxHeartbeats 2000000 in
theorem dueUnsent_any (w : World) (id : Int) (bk ot : Bool) (du : Int) (dm : Bool) :
    Calls Tryz.prog 165 #[.agg #[.int .i64 id, .bool bk, .bool ot, .int .i64 du, .bool dm]] w fun e w' => e = .returned (.bool (!ot && decide (du ≠ 0))) ∧ Below w.heap.size w w' := by
  have HB : Hid (Below w.heap.size w (w.alloc (.cells #[.int .i64 id, .bool bk, .bool ot, .int .i64 du, .bool dm] 148))) := (Below.refl _ _).alloc (Nat.le_refl _) _
  cases ot
  · by_cases c : du = 0
    · subst c
      go_enter Tryz.func165, Tryz.ntmps165
      go_wp2_with fail
      go_ret
      exact ⟨rfl, HB.out⟩
    · have c' : (du != 0) = true := by simpa using c
      have c2 : decide (du ≠ 0) = true := by simpa using c
      rw [c2]
      clear c c2
      go_enter Tryz.func165, Tryz.ntmps165
      go_wp2_with fail
      go_ret
      exact ⟨rfl, HB.out⟩
  · go_enter Tryz.func165, Tryz.ntmps165
    go_wp2_with fail
    go_ret
    exact ⟨rfl, HB.out⟩
def asC (ks : Nat) (rq : Int) : Int := if ks < 1 ∨ 500 < ks then 2 else rq
set_option maxHeartbeats 2000000 in
theorem askedFault_any (E : Errs) (w : World) (key m h p : ByteArray) (ha : Option Addr) (hc : Nat) (hs : List Hdr) (hl : hs.length ≤ 1048576) (hcap : hs.length ≤ hc) (hps : p.size ≤ 1048576) (hks : key.size ≤ 1048576) (hset : SetIs w) (hE : ErrsIs w E) (hi : HdsIn w ha hs) :
    Calls Tryz.prog 164 #[.agg #[.string key, .string m, .string h, .string p, .slice ha hs.length hc]] w fun e w' => e = .returned (.int .i64 (asC key.size (reqC m h p hs))) ∧ Below w.heap.size w w' := by
  have bW : Below w.heap.size w (w.alloc (.cells #[.string key, .string m, .string h, .string p, .slice ha hs.length hc] 146)) := (Below.refl _ _).alloc (Nat.le_refl _) _
  have C := implReq_any E _ m h p ha hc hs hl hcap hps (hset.below bW) (hE.below bW) (hi.keep bW)
  have HB : Hid (Below w.heap.size w (w.alloc (.cells #[.string key, .string m, .string h, .string p, .slice ha hs.length hc] 146))) := bW
  obtain ⟨Z, hZ⟩ : ∃ Z, Hid (asC key.size (reqC m h p hs) = Z) := ⟨_, rfl⟩
  rw [hZ.out]
  unfold asC at hZ
  clear bW hset hE hi hl hcap
  generalize reqC m h p hs = rq at *
  generalize hs.length = n at *
  by_cases c1 : (key.size : Int) < 1
  · have HR : Hid (2 = Z) := by have z := hZ.out; rw [if_pos (.inl (by omega))] at z; exact z
    have HIK : Hid (∀ w, Calls Tryz.prog 191 #[.string key] w fun r w' => r = .returned (.bool false) ∧ w' = w) := fun w => isKey_one key false (by simp; omega) w
    clear hZ C
    go_enter Tryz.func164, Tryz.ntmps164
    go_wp2_with fail
    refine (HIK.out _).mono ?_
    rintro r wk ⟨rfl, rfl⟩
    go_wp2_with fail
    go_ret
    exact ⟨ret_int HR.out, HB.out⟩
  by_cases c2 : (500 : Int) < key.size
  · have HR : Hid (2 = Z) := by have z := hZ.out; rw [if_pos (.inr (by omega))] at z; exact z
    have HIK : Hid (∀ w, Calls Tryz.prog 191 #[.string key] w fun r w' => r = .returned (.bool false) ∧ w' = w) := fun w => isKey_one key false (by simp; omega) w
    clear hZ C
    go_enter Tryz.func164, Tryz.ntmps164
    go_wp2_with fail
    refine (HIK.out _).mono ?_
    rintro r wk ⟨rfl, rfl⟩
    go_wp2_with fail
    go_ret
    exact ⟨ret_int HR.out, HB.out⟩
  have HR : Hid (rq = Z) := by have z := hZ.out; rw [if_neg (by omega)] at z; exact z
  have HIK : Hid (∀ w, Calls Tryz.prog 191 #[.string key] w fun r w' => r = .returned (.bool true) ∧ w' = w) := fun w => isKey_one key true (by simp; omega) w
  clear hZ
  go_enter Tryz.func164, Tryz.ntmps164
  go_wp2_with fail
  refine (HIK.out _).mono ?_
  rintro r wk ⟨rfl, rfl⟩
  go_wp2_with fail
  refine C.mono ?_
  rintro e w1 ⟨rfl, hb1⟩
  have HB1 : Hid (Below w.heap.size w w1) := HB.out.trans (hb1.mono HB.out.size)
  clear hb1 C HB
  go_wp2_with fail
  go_ret
  exact ⟨ret_int HR.out, HB1.out⟩
set_option maxHeartbeats 2000000 in
theorem waiter_any (w : World) (y : Wr) :
    Calls Tryz.prog 82 #[.agg #[.int .i64 y.rq, .bool y.hd, .int .i64 y.du, .bool y.lt]] w fun e w' => e = .returned (.bool (waitOk y)) ∧ Below w.heap.size w w' := by
  have HB : Hid (Below w.heap.size w (w.alloc (.cells #[.int .i64 y.rq, .bool y.hd, .int .i64 y.du, .bool y.lt] 91))) := (Below.refl _ _).alloc (Nat.le_refl _) _
  have H1 : Hid (∀ x X, Calls Tryz.prog 50 #[.int .i64 x, .int .i64 0, .int .i64 1000000000000000] X fun r w' => r = .returned (.bool (timeB x)) ∧ w' = X) := within_time
  have H2 : Hid (∀ x X, Calls Tryz.prog 49 #[.int .i64 x] X fun r w' => r = .returned (.bool (timeB x)) ∧ w' = X) := isTime_all
  obtain ⟨rq, hd, du, lt⟩ := y
  simp only [waitOk] at HB ⊢
  obtain ⟨Z, hZ⟩ : ∃ Z, Hid ((timeB rq && timeB du) = Z) := ⟨_, rfl⟩
  rw [hZ.out]
  go_enter Tryz.func82, Tryz.ntmps82
  go_wp2_with fail
  refine (H1.out _ _).mono ?_
  rintro z w1 ⟨rfl, rfl⟩
  generalize timeB rq = t1 at *
  cases t1
  · have HR : Hid (false = Z) := hZ.out
    clear hZ
    go_wp2_with fail
    go_ret
    exact ⟨ret_bool HR.out, HB.out⟩
  · go_wp2_with fail
    refine (H2.out _ _).mono ?_
    rintro z w1 ⟨rfl, rfl⟩
    generalize timeB du = t2 at *
    have HR : Hid (t2 = Z) := by have z := hZ.out; rw [Bool.true_and] at z; exact z
    clear hZ
    go_wp2_with fail
    go_ret
    exact ⟨ret_bool HR.out, HB.out⟩
set_option maxHeartbeats 2000000 in
theorem noWaiter_any (w : World) (y : Wr) :
    Calls Tryz.prog 167 #[.agg #[.int .i64 y.rq, .bool y.hd, .int .i64 y.du, .bool y.lt]] w fun e w' => e = .returned (.bool (!waitOk y)) ∧ Below w.heap.size w w' := by
  have HB : Hid (Below w.heap.size w (w.alloc (.cells #[.int .i64 y.rq, .bool y.hd, .int .i64 y.du, .bool y.lt] 91))) := (Below.refl _ _).alloc (Nat.le_refl _) _
  have C := waiter_any (w.alloc (.cells #[.int .i64 y.rq, .bool y.hd, .int .i64 y.du, .bool y.lt] 91)) y
  generalize waitOk y = ok at *
  obtain ⟨rq, hd, du, lt⟩ := y
  simp only at HB C ⊢
  go_enter Tryz.func167, Tryz.ntmps167
  go_wp2_with fail
  refine C.mono ?_
  rintro z w1 ⟨rfl, hb1⟩
  have HB1 : Hid (Below w.heap.size w w1) := HB.out.trans (hb1.mono HB.out.size)
  clear hb1 C HB
  go_wp2_with fail
  go_ret
  exact ⟨rfl, HB1.out⟩
theorem predNoW (w : World) : PredR w 167 #[] (fun r => !waitOk r) := ⟨enters_of Tryz.func167 (by kernel_rfl) rfl, fun X _ r => noWaiter_any X r⟩
theorem any_not_all (l : List Wr) : l.any (fun r => !waitOk r) = !allOk l := by
  unfold allOk
  induction l with
  | nil => rfl
  | cons x l ih => rw [List.any_cons, List.all_cons, ih, Bool.not_and]
end Go.Proofs.YtacninhhkbglaaaGreatDoor
/-
  The fault of a flight, by the program.
-/
namespace Go.Proofs.YtacninhhkbglaaaGreatDoor
open Go.ChangeShapes Go.WideShapes Go.ChangeAt Go.RowKit Go.Sort
theorem flC_asked {t : Bool} {ks : Nat} {rq : Int} {ot : Bool} {du : Int} {n : Nat} {ok nd : Bool} (ht : t = true) : flC5 t ks rq ot du n ok nd = if asC ks rq ≠ 0 then asC ks rq else if (!ot && decide (du ≠ 0)) = true then 8 else if 10 < n then 2 else if ok = false then 3 else if nd = false then 6 else 0 := by
  subst ht
  unfold flC5 asC
  rw [if_neg (by decide)]
  by_cases h : ks < 1 ∨ 500 < ks
  · rw [if_pos h, if_pos h, if_pos (by decide)]
  · rw [if_neg h, if_neg h]
    by_cases h2 : rq ≠ 0
    · rw [if_pos h2, if_pos h2]
    · rw [if_neg h2, if_neg h2]
      have e : (ot = false ∧ du ≠ 0) = ((!ot && decide (du ≠ 0)) = true) := by simp
      simp only [e]
theorem FlsIn.one {w : World} {x : Fl} {r : FlR} (h : FlIn w x r) : FlsIn (w.alloc (.cells #[.int .i64 x.id, .string x.key, .bool x.bk, .bool x.ot, .int .i64 x.du, .bool x.dm, .string x.m, .string x.h, .string x.p, .slice r.ha x.hs.length r.hc, .slice r.wa x.ws.length r.wc] 86)) (some ⟨w.heap.size, 0, none⟩) [(x, r)] := by
  refine .inr ⟨w.heap.size, 0, rfl, fun i q hq => ?_⟩
  match i, hq with
  | 0, hq =>
    obtain rfl := Option.some.inj (show some (x, r) = some q from hq)
    refine ⟨fun j hj => ?_, h.keep ((Below.refl _ _).alloc (Nat.le_refl _) _)⟩
    rw [World.cell?_alloc_mark]
    match j, hj with
    | 0, _ => rfl
    | 1, _ => rfl
    | 2, _ => rfl
    | 3, _ => rfl
    | 4, _ => rfl
    | 5, _ => rfl
    | 6, _ => rfl
    | 7, _ => rfl
    | 8, _ => rfl
    | 9, _ => rfl
    | 10, _ => rfl
  | i + 1, hq => simp at hq
set_option maxRecDepth 100000 in
set_option maxHeartbeats 16000000 in
theorem implFl_any (E : Errs) (w : World) (x : Fl) (r : FlR) (hf : FlFit x) (hset : SetIs w) (hE : ErrsIs w E) (hi : FlIn w x r) :
    Calls Tryz.prog 81 #[.agg #[.int .i64 x.id, .string x.key, .bool x.bk, .bool x.ot, .int .i64 x.du, .bool x.dm, .string x.m, .string x.h, .string x.p, .slice r.ha x.hs.length r.hc, .slice r.wa x.ws.length r.wc]] w fun e w' => e = .returned (.int .i64 (flC x)) ∧ Below w.heap.size w w' := by
  obtain ⟨W, hW⟩ : ∃ W, W = w.alloc (.cells #[.int .i64 x.id, .string x.key, .bool x.bk, .bool x.ot, .int .i64 x.du, .bool x.dm, .string x.m, .string x.h, .string x.p, .slice r.ha x.hs.length r.hc, .slice r.wa x.ws.length r.wc] 86) := ⟨_, rfl⟩
  have HW : Hid (W = w.alloc (.cells #[.int .i64 x.id, .string x.key, .bool x.bk, .bool x.ot, .int .i64 x.du, .bool x.dm, .string x.m, .string x.h, .string x.p, .slice r.ha x.hs.length r.hc, .slice r.wa x.ws.length r.wc] 86)) := hW
  have B0 : Hid (Below w.heap.size w W) := by show Below _ _ _; rw [hW]; exact (Below.refl _ _).alloc (Nat.le_refl _) _
  have HE0 : Hid (∀ X, Below W.heap.size W X → E11 X w.heap.size (.int .i64 x.id) (.string x.key) (.bool x.bk) (.bool x.ot) (.int .i64 x.du) (.bool x.dm) (.string x.m) (.string x.h) (.string x.p) (.slice r.ha x.hs.length r.hc) (.slice r.wa x.ws.length r.wc)) := fun X hX => by
    have := E11.new w (.int .i64 x.id) (.string x.key) (.bool x.bk) (.bool x.ot) (.int .i64 x.du) (.bool x.dm) (.string x.m) (.string x.h) (.string x.p) (.slice r.ha x.hs.length r.hc) (.slice r.wa x.ws.length r.wc) 86
    rw [← hW] at this
    exact this.keep hX
  have HT : Hid (∀ X, Calls Tryz.prog 83 #[.agg #[.int .i64 x.id, .string x.key, .bool x.bk, .bool x.ot, .int .i64 x.du, .bool x.dm, .string x.m, .string x.h, .string x.p, .slice r.ha x.hs.length r.hc, .slice r.wa x.ws.length r.wc]] X fun e w' => e = .returned (.agg #[.string x.key, .string x.m, .string x.h, .string x.p, .slice r.ha x.hs.length r.hc, .int .i64 x.id, .bool x.bk, .bool x.ot, .int .i64 x.du, .bool x.dm, .slice r.wa x.ws.length r.wc]) ∧ Below X.heap.size X w') := fun X => trip_any X x r
  have HIB : Hid (∀ X, Calls Tryz.prog 163 #[.agg #[.int .i64 x.id, .bool x.bk, .bool x.ot, .int .i64 x.du, .bool x.dm]] X fun e w' => e = .returned (.bool (timeB x.id && timeB x.du)) ∧ Below X.heap.size X w') := fun X => inBounds_any X _ _ _ _ _
  have HDU : Hid (∀ X, Calls Tryz.prog 165 #[.agg #[.int .i64 x.id, .bool x.bk, .bool x.ot, .int .i64 x.du, .bool x.dm]] X fun e w' => e = .returned (.bool (!x.ot && decide (x.du ≠ 0))) ∧ Below X.heap.size X w') := fun X => dueUnsent_any X _ _ _ _ _
  have HAF : Hid (∀ X, Below w.heap.size w X → Calls Tryz.prog 164 #[.agg #[.string x.key, .string x.m, .string x.h, .string x.p, .slice r.ha x.hs.length r.hc]] X fun e w' => e = .returned (.int .i64 (asC x.key.size (reqC x.m x.h x.p x.hs))) ∧ Below X.heap.size X w') := fun X hX => askedFault_any E X _ _ _ _ _ _ _ hf.h hi.hc hf.p hf.key (hset.below hX) (hE.below hX) (hi.h.keep hX)
  have HCF : Hid (∀ X, Below w.heap.size w X → Calls Tryz.prog 166 #[.slice r.wa x.ws.length r.wc, .func (.func 167) #[] #[]] X fun e w' => e = .returned (.bool (!allOk x.ws)) ∧ Below X.heap.size X w') := fun X hX => by
    have z := containsWr_any X 167 #[] (fun r => !waitOk r) r.wa r.wc x.ws hf.w (hi.k.keep hX) (predNoW X)
    rw [any_not_all] at z
    exact z
  have HAP : Hid (timeB x.id = true → x.ws.length ≤ 10 → allOk x.ws = true → ∀ X, Below w.heap.size w X → Calls Tryz.prog 130 #[.slice (some ⟨X.heap.size, 0, none⟩) 1 1] (X.alloc (.cells #[.int .i64 x.id, .string x.key, .bool x.bk, .bool x.ot, .int .i64 x.du, .bool x.dm, .string x.m, .string x.h, .string x.p, .slice r.ha x.hs.length r.hc, .slice r.wa x.ws.length r.wc] 86)) fun e w' => e = .returned (.bool (nodR x.ws)) ∧ Below X.heap.size X w') := fun h1 h2 h3 X hX => by
    have al : Below X.heap.size X (X.alloc (.cells #[.int .i64 x.id, .string x.key, .bool x.bk, .bool x.ot, .int .i64 x.du, .bool x.dm, .string x.m, .string x.h, .string x.p, .slice r.ha x.hs.length r.hc, .slice r.wa x.ws.length r.wc] 86)) := (Below.refl _ _).alloc (Nat.le_refl _) _
    have z := areApart_any (X.alloc (.cells #[.int .i64 x.id, .string x.key, .bool x.bk, .bool x.ot, .int .i64 x.du, .bool x.dm, .string x.m, .string x.h, .string x.p, .slice r.ha x.hs.length r.hc, .slice r.wa x.ws.length r.wc] 86)) (some ⟨X.heap.size, 0, none⟩) 1 [(x, r)] (by simp) (fun q hq => by obtain rfl := List.mem_singleton.1 hq; exact ⟨h2, sgsOk_of h1 hf.key h3⟩) (FlsIn.one (hi.keep hX))
    rw [show ([(x, r)] : List (Fl × FlR)).map Prod.fst = [x] from rfl, tab_one] at z
    exact z.mono fun e w' ⟨q1, q2⟩ => ⟨q1, al.trans (q2.mono al.size)⟩
  obtain ⟨Z, hZ⟩ : ∃ Z, Hid (flC x = Z) := ⟨_, rfl⟩
  rw [hZ.out]
  unfold flC at hZ
  clear hW hi hf hset hE
  obtain ⟨id, key, bk, ot, du, dm, m, h, p, hs, ws⟩ := x
  obtain ⟨ha, hc, wa, wc⟩ := r
  simp only at HW HE0 HT HIB HDU HAF HCF HAP hZ ⊢
  generalize reqC m h p hs = rq at *
  generalize hs.length = hl at *
  generalize ws.length = wn at *
  go_enter Tryz.func81, Tryz.ntmps81
  go_wp2_with fail
  rw [← HW.out]
  clear HW
  refine (HT.out _).mono ?_
  rintro z0 w1 ⟨rfl, hb1⟩
  obtain ⟨V, hV⟩ : ∃ V, V = w1.alloc (.cells #[.string key, .string m, .string h, .string p, .slice ha hl hc, .int .i64 id, .bool bk, .bool ot, .int .i64 du, .bool dm, .slice wa wn wc] 150) := ⟨_, rfl⟩
  have HV : Hid (V = w1.alloc (.cells #[.string key, .string m, .string h, .string p, .slice ha hl hc, .int .i64 id, .bool bk, .bool ot, .int .i64 du, .bool dm, .slice wa wn wc] 150)) := hV
  have HE : Hid (∀ X, Below V.heap.size V X → Below w.heap.size w X ∧ E11 X w.heap.size (.int .i64 id) (.string key) (.bool bk) (.bool ot) (.int .i64 du) (.bool dm) (.string m) (.string h) (.string p) (.slice ha hl hc) (.slice wa wn wc) ∧ E11 X w1.heap.size (.string key) (.string m) (.string h) (.string p) (.slice ha hl hc) (.int .i64 id) (.bool bk) (.bool ot) (.int .i64 du) (.bool dm) (.slice wa wn wc)) := fun X hX => by
    have al : Below w1.heap.size w1 V := by rw [hV]; exact (Below.refl _ _).alloc (Nat.le_refl _) _
    have b1 := hb1.trans (al.mono hb1.size)
    have b2 := b1.trans (hX.mono b1.size)
    have e := E11.new w1 (.string key) (.string m) (.string h) (.string p) (.slice ha hl hc) (.int .i64 id) (.bool bk) (.bool ot) (.int .i64 du) (.bool dm) (.slice wa wn wc) 150
    rw [← hV] at e
    exact ⟨B0.out.trans (b2.mono B0.out.size), HE0.out X b2, e.keep hX⟩
  clear hb1 hV HE0 B0 HT
  go_upto_region 2 with fail
  rw [← HV.out]
  clear HV
  generalize w1.heap.size = M at *
  clear w1
  obtain ⟨e0, e1, e2, e3, e4, e5, e6, e7, e8, e9, e10, _, _⟩ := (HE.out V (Below.refl _ _)).2.2
  go_wp2_with fail
  refine (HIB.out _).mono ?_
  rintro z0 w2 ⟨rfl, hb2⟩
  have H2 : Hid (∀ X, Below w2.heap.size w2 X → Below w.heap.size w X ∧ E11 X w.heap.size (.int .i64 id) (.string key) (.bool bk) (.bool ot) (.int .i64 du) (.bool dm) (.string m) (.string h) (.string p) (.slice ha hl hc) (.slice wa wn wc) ∧ E11 X M (.string key) (.string m) (.string h) (.string p) (.slice ha hl hc) (.int .i64 id) (.bool bk) (.bool ot) (.int .i64 du) (.bool dm) (.slice wa wn wc)) := fun X hX => HE.out X (hb2.trans (hX.mono hb2.size))
  clear hb2 HE e0 e1 e2 e3 e4 e5 e6 e7 e8 e9 e10
  obtain ⟨t, ht⟩ : ∃ t, Hid ((timeB id && timeB du) = t) := ⟨_, rfl⟩
  rw [ht.out] at hZ ⊢
  cases t
  · have HR : Hid (3 = Z) := hZ.out
    have BB := (H2.out w2 (Below.refl _ _)).1
    clear hZ
    go_wp2_with fail
    go_ret
    exact ⟨ret_int HR.out, BB⟩
  rw [flC_asked rfl] at hZ
  have hid1 : timeB id = true := by have z := ht.out; rw [Bool.and_eq_true] at z; exact z.1
  have HAP1 := fun a b => HAP.out hid1 a b
  have HAP2 : Hid (wn ≤ 10 → allOk ws = true → ∀ X, Below w.heap.size w X → Calls Tryz.prog 130 #[.slice (some ⟨X.heap.size, 0, none⟩) 1 1] (X.alloc (.cells #[.int .i64 id, .string key, .bool bk, .bool ot, .int .i64 du, .bool dm, .string m, .string h, .string p, .slice ha hl hc, .slice wa wn wc] 86)) fun e w' => e = .returned (.bool (nodR ws)) ∧ Below X.heap.size X w') := HAP1
  clear ht hid1 HAP HAP1
  obtain ⟨e0, e1, e2, e3, e4, e5, e6, e7, e8, e9, e10, _, _⟩ := (H2.out w2 (Below.refl _ _)).2.2
  go_wp2_with fail
  refine (HAF.out _ (H2.out w2 (Below.refl _ _)).1).mono ?_
  rintro z0 w3 ⟨rfl, hb3⟩
  have H3 : Hid (∀ X, Below w3.heap.size w3 X → Below w.heap.size w X ∧ E11 X w.heap.size (.int .i64 id) (.string key) (.bool bk) (.bool ot) (.int .i64 du) (.bool dm) (.string m) (.string h) (.string p) (.slice ha hl hc) (.slice wa wn wc) ∧ E11 X M (.string key) (.string m) (.string h) (.string p) (.slice ha hl hc) (.int .i64 id) (.bool bk) (.bool ot) (.int .i64 du) (.bool dm) (.slice wa wn wc)) := fun X hX => H2.out X (hb3.trans (hX.mono hb3.size))
  clear hb3 H2 HAF e0 e1 e2 e3 e4 e5 e6 e7 e8 e9 e10
  generalize asC key.size rq = ac at *
  by_cases c3 : ac = 0
  rotate_left
  · have HR : Hid (ac = Z) := by have z := hZ.out; rw [if_pos c3] at z; exact z
    have c3' : (ac != 0) = true := by simpa using c3
    have BB := (H3.out w3 (Below.refl _ _)).1
    clear hZ c3
    go_wp2_with fail
    go_ret
    exact ⟨ret_int HR.out, BB⟩
  subst c3
  rw [if_neg (by simp)] at hZ
  obtain ⟨e0, e1, e2, e3, e4, e5, e6, e7, e8, e9, e10, _, _⟩ := (H3.out w3 (Below.refl _ _)).2.2
  go_wp2_with fail
  refine (HDU.out _).mono ?_
  rintro z0 w4 ⟨rfl, hb4⟩
  have H4 : Hid (∀ X, Below w4.heap.size w4 X → Below w.heap.size w X ∧ E11 X w.heap.size (.int .i64 id) (.string key) (.bool bk) (.bool ot) (.int .i64 du) (.bool dm) (.string m) (.string h) (.string p) (.slice ha hl hc) (.slice wa wn wc) ∧ E11 X M (.string key) (.string m) (.string h) (.string p) (.slice ha hl hc) (.int .i64 id) (.bool bk) (.bool ot) (.int .i64 du) (.bool dm) (.slice wa wn wc)) := fun X hX => H3.out X (hb4.trans (hX.mono hb4.size))
  clear hb4 H3 HDU HIB e0 e1 e2 e3 e4 e5 e6 e7 e8 e9 e10
  generalize (!ot && decide (du ≠ 0)) = dn at *
  cases dn
  rotate_left
  · have HR : Hid (8 = Z) := hZ.out
    have BB := (H4.out w4 (Below.refl _ _)).1
    clear hZ
    go_wp2_with fail
    go_ret
    exact ⟨ret_int HR.out, BB⟩
  rw [if_neg (by decide)] at hZ
  obtain ⟨e0, e1, e2, e3, e4, e5, e6, e7, e8, e9, e10, _, _⟩ := (H4.out w4 (Below.refl _ _)).2.2
  by_cases c6 : (10 : Int) < wn
  · have HR : Hid (2 = Z) := by have z := hZ.out; rw [if_pos (by omega)] at z; exact z
    have BB := (H4.out w4 (Below.refl _ _)).1
    clear hZ
    go_wp2_with fail
    go_ret
    exact ⟨ret_int HR.out, BB⟩
  rw [if_neg (by omega)] at hZ
  go_wp2_with fail
  refine (HCF.out _ (H4.out w4 (Below.refl _ _)).1).mono ?_
  rintro z0 w5 ⟨rfl, hb5⟩
  have H5 : Hid (∀ X, Below w5.heap.size w5 X → Below w.heap.size w X ∧ E11 X w.heap.size (.int .i64 id) (.string key) (.bool bk) (.bool ot) (.int .i64 du) (.bool dm) (.string m) (.string h) (.string p) (.slice ha hl hc) (.slice wa wn wc) ∧ E11 X M (.string key) (.string m) (.string h) (.string p) (.slice ha hl hc) (.int .i64 id) (.bool bk) (.bool ot) (.int .i64 du) (.bool dm) (.slice wa wn wc)) := fun X hX => H4.out X (hb5.trans (hX.mono hb5.size))
  clear hb5 H4 HCF e0 e1 e2 e3 e4 e5 e6 e7 e8 e9 e10
  have HAP3 := fun b => HAP2.out (by omega) b
  generalize allOk ws = ok at *
  cases ok
  · have HR : Hid (3 = Z) := hZ.out
    have BB := (H5.out w5 (Below.refl _ _)).1
    clear hZ HAP3 HAP2
    go_wp2_with fail
    go_ret
    exact ⟨ret_int HR.out, BB⟩
  rw [if_neg (by decide)] at hZ
  have HA := HAP3 rfl w5 (H5.out w5 (Below.refl _ _)).1
  have HA2 : Hid (Calls Tryz.prog 130 #[.slice (some ⟨w5.heap.size, 0, none⟩) 1 1] (w5.alloc (.cells #[.int .i64 id, .string key, .bool bk, .bool ot, .int .i64 du, .bool dm, .string m, .string h, .string p, .slice ha hl hc, .slice wa wn wc] 86)) fun e w' => e = .returned (.bool (nodR ws)) ∧ Below w5.heap.size w5 w') := HA
  clear HAP3 HAP2 HA
  obtain ⟨e0, e1, e2, e3, e4, e5, e6, e7, e8, e9, e10, _, _⟩ := (H5.out w5 (Below.refl _ _)).2.1
  go_wp2_with fail
  refine HA2.out.mono ?_
  rintro z0 w6 ⟨rfl, hb6⟩
  have B6 : Hid (Below w.heap.size w w6) := (H5.out w6 hb6).1
  clear hb6 H5 HA2 e0 e1 e2 e3 e4 e5 e6 e7 e8 e9 e10
  generalize nodR ws = nd at *
  cases nd
  · have HR : Hid (6 = Z) := hZ.out
    clear hZ
    go_wp2_with fail
    go_ret
    exact ⟨ret_int HR.out, B6.out⟩
  · have HR : Hid (0 = Z) := hZ.out
    clear hZ
    go_wp2_with fail
    go_ret
    exact ⟨ret_int HR.out, B6.out⟩
end Go.Proofs.YtacninhhkbglaaaGreatDoor
/-
  The fault of a list of flights, plainly; signs that are apart.
-/
namespace Go.Proofs.YtacninhhkbglaaaGreatDoor
open Go.ChangeShapes Go.WideShapes Go.ChangeAt Go.RowKit Go.Sort
theorem tabS_none (k : Nat) : ∀ (l : List Sg) (p : Sg → Option Nat) (a : Bool) (y : Sg), (tabS k l p a).1 y = none ↔ p y = none ∧ y ∉ l
  | [], p, a, y => by simp [tabS]
  | s :: l, p, a, y => by
    rw [tabS, tabS_none k l]
    by_cases e : sgEq y s = true
    · have q := sgEq_iff.1 e
      subst q
      simp [e]
    · have q : y ≠ s := fun h => e (sgEq_iff.2 h)
      simp [e, q]
def allSg (l : List Fl) : List Sg := l.flatMap signsF
theorem tabF_iff : ∀ (l : List Fl) (k : Nat) (p : Sg → Option Nat) (a : Bool), (tabF k l p a).2 = true ↔ a = true ∧ (allSg l).Nodup ∧ ∀ s ∈ allSg l, p s = none
  | [], k, p, a => by simp [tabF, allSg]
  | x :: l, k, p, a => by
    rw [tabF, tabF_iff l, tabS_iff]
    have e : allSg (x :: l) = signsF x ++ allSg l := rfl
    rw [e, List.nodup_append]
    constructor
    · rintro ⟨⟨h1, h2, h3⟩, h4, h5⟩
      refine ⟨h1, ⟨h2, h4, fun s hs y hy q => ?_⟩, fun s hs => ?_⟩
      · subst q
        exact ((tabS_none k _ p a s).1 (h5 s hy)).2 hs
      · rcases List.mem_append.1 hs with hs | hs
        · exact h3 s hs
        · exact ((tabS_none k _ p a s).1 (h5 s hs)).1
    · rintro ⟨h1, ⟨h2, h3, h4⟩, h5⟩
      exact ⟨⟨h1, h2, fun s hs => h5 s (List.mem_append_left _ hs)⟩, h3, fun s hs => (tabS_none k _ p a s).2 ⟨h5 s (List.mem_append_right _ hs), fun hm => h4 s hm s hs rfl⟩⟩
theorem nodup_kinds {L : List Sg} (hk : ∀ s ∈ L, s.kd = 0 ∨ s.kd = 1 ∨ s.kd = 2) : L.Nodup ↔ (L.filter fun s => decide (s.kd = 0)).Nodup ∧ (L.filter fun s => decide (s.kd = 1)).Nodup ∧ (L.filter fun s => decide (s.kd = 2)).Nodup := by
  constructor
  · intro h
    exact ⟨h.filter _, h.filter _, h.filter _⟩
  · rintro ⟨h0, h1, h2⟩
    induction L with
    | nil => exact List.nodup_nil
    | cons s L ih =>
      have hk' : ∀ s ∈ L, s.kd = 0 ∨ s.kd = 1 ∨ s.kd = 2 := fun y hy => hk y (List.mem_cons_of_mem _ hy)
      rw [List.nodup_cons]
      have sub : ∀ i : Int, ((s :: L).filter fun s => decide (s.kd = i)).Nodup → (L.filter fun s => decide (s.kd = i)).Nodup := fun i h => by
        rw [List.filter_cons] at h
        split at h
        · exact (List.nodup_cons.1 h).2
        · exact h
      refine ⟨fun hm => ?_, ih hk' (sub 0 h0) (sub 1 h1) (sub 2 h2)⟩
      have bad : ∀ i : Int, s.kd = i → ¬ ((s :: L).filter fun s => decide (s.kd = i)).Nodup := fun i e h => by
        rw [List.filter_cons_of_pos (by simpa using e), List.nodup_cons] at h
        exact h.1 (List.mem_filter.2 ⟨hm, by simpa using e⟩)
      rcases hk s (List.mem_cons_self ..) with e | e | e
      · exact bad 0 e h0
      · exact bad 1 e h1
      · exact bad 2 e h2
def allWr (l : List Fl) : List Wr := l.flatMap Fl.ws
theorem wSigns_none (ws : List Wr) (i : Int) (h : i ≠ 2) : ((ws.map wSign).filter fun s => decide (s.kd = i)) = [] := by
  rw [List.filter_eq_nil_iff]
  intro s hs
  obtain ⟨y, _, rfl⟩ := List.mem_map.1 hs
  have q : (wSign y).kd = 2 := rfl
  rw [q]
  simpa using fun e : (2 : Int) = i => h e.symm
theorem wSigns_all (ws : List Wr) : ((ws.map wSign).filter fun s => decide (s.kd = 2)) = ws.map wSign := by
  rw [List.filter_eq_self]
  intro s hs
  obtain ⟨y, _, rfl⟩ := List.mem_map.1 hs
  rfl
theorem all_ids : ∀ l : List Fl, ((allSg l).filter fun s => decide (s.kd = 0)) = l.map fun x => (⟨0, x.id, ⟨#[]⟩⟩ : Sg)
  | [] => rfl
  | x :: l => by
    have e : allSg (x :: l) = ⟨0, x.id, ⟨#[]⟩⟩ :: ⟨1, 0, x.key⟩ :: (x.ws.map wSign ++ allSg l) := rfl
    rw [e, List.filter_cons_of_pos (by rfl), List.filter_cons_of_neg (by simp), List.filter_append, wSigns_none _ _ (by decide), all_ids l]
    rfl
theorem all_keys : ∀ l : List Fl, ((allSg l).filter fun s => decide (s.kd = 1)) = l.map fun x => (⟨1, 0, x.key⟩ : Sg)
  | [] => rfl
  | x :: l => by
    have e : allSg (x :: l) = ⟨0, x.id, ⟨#[]⟩⟩ :: ⟨1, 0, x.key⟩ :: (x.ws.map wSign ++ allSg l) := rfl
    rw [e, List.filter_cons_of_neg (by simp), List.filter_cons_of_pos (by rfl), List.filter_append, wSigns_none _ _ (by decide), all_keys l]
    rfl
theorem all_reqs : ∀ l : List Fl, ((allSg l).filter fun s => decide (s.kd = 2)) = (allWr l).map wSign
  | [] => rfl
  | x :: l => by
    have e : allSg (x :: l) = ⟨0, x.id, ⟨#[]⟩⟩ :: ⟨1, 0, x.key⟩ :: (x.ws.map wSign ++ allSg l) := rfl
    have e2 : allWr (x :: l) = x.ws ++ allWr l := rfl
    rw [e, List.filter_cons_of_neg (by simp), List.filter_cons_of_neg (by simp), List.filter_append, wSigns_all, all_reqs l, e2, List.map_append]
theorem kinds_all (l : List Fl) : ∀ s ∈ allSg l, s.kd = 0 ∨ s.kd = 1 ∨ s.kd = 2 := by
  intro s hs
  obtain ⟨x, _, hx⟩ := List.mem_flatMap.1 hs
  unfold signsF at hx
  rcases List.mem_cons.1 hx with rfl | hx
  · exact .inl rfl
  · rcases List.mem_cons.1 hx with rfl | hx
    · exact .inr (.inl rfl)
    · obtain ⟨y, _, rfl⟩ := List.mem_map.1 hx
      exact .inr (.inr rfl)
def riseF (l : List Fl) : Bool := decide ((l.map Fl.id).Pairwise (· < ·))
def keysR (l : List Fl) : Bool := decide ((l.map Fl.key).Nodup)
theorem tab_all (l : List Fl) (hr : riseF l = true) : (tabF 0 l none3 true).2 = (keysR l && nodR (allWr l)) := by
  have k := tabF_iff l 0 none3 true
  have hids : (l.map fun x => (⟨0, x.id, ⟨#[]⟩⟩ : Sg)).Nodup := by
    unfold riseF at hr
    have h := of_decide_eq_true hr
    rw [List.pairwise_map] at h
    unfold List.Nodup
    rw [List.pairwise_map]
    exact h.imp fun {a b} q e => by
      have := congrArg Sg.nm e
      simp at this
      omega
  have hkeys : (l.map fun x => (⟨1, 0, x.key⟩ : Sg)).Nodup ↔ (l.map Fl.key).Nodup := by
    unfold List.Nodup
    rw [List.pairwise_map, List.pairwise_map]
    have e : (fun a b : Fl => (⟨1, 0, a.key⟩ : Sg) ≠ ⟨1, 0, b.key⟩) = (fun a b : Fl => a.key ≠ b.key) := by
      funext a b
      simp
    rw [e]
  have hreq : ((allWr l).map wSign).Nodup ↔ ((allWr l).map Wr.rq).Nodup := by
    unfold List.Nodup
    rw [List.pairwise_map, List.pairwise_map]
    have e : (fun a b : Wr => wSign a ≠ wSign b) = (fun a b : Wr => a.rq ≠ b.rq) := by
      funext a b
      simp [wSign]
    rw [e]
  rw [nodup_kinds (kinds_all l), all_ids, all_keys, all_reqs, hkeys, hreq] at k
  have k2 : (tabF 0 l none3 true).2 = true ↔ (keysR l && nodR (allWr l)) = true := by
    rw [k, Bool.and_eq_true]
    unfold keysR nodR
    rw [decide_eq_true_eq, decide_eq_true_eq]
    exact ⟨fun h => ⟨h.2.1.2.1, h.2.1.2.2⟩, fun h => ⟨rfl, ⟨hids, h.1, h.2⟩, fun s _ => rfl⟩⟩
  cases e : (keysR l && nodR (allWr l)) with
  | true => exact k2.2 e
  | false =>
    cases e2 : (tabF 0 l none3 true).2 with
    | false => rfl
    | true => rw [k2.1 e2] at e; cases e
/-- The first fault in a list; 0: none. -/
def firstC : List Fl → Int
  | [] => 0
  | x :: l => if flC x ≠ 0 then flC x else firstC l
def flsC (l : List Fl) : Int := if 24 < l.length then 2 else if firstC l ≠ 0 then firstC l else if riseF l = false then 1 else if (keysR l && nodR (allWr l)) = false then 6 else 0
theorem firstC_zero : ∀ {l : List Fl}, firstC l = 0 → ∀ x ∈ l, flC x = 0
  | [], _, x, hx => by simp at hx
  | y :: l, h, x, hx => by
    rw [firstC] at h
    by_cases c : flC y = 0
    · rw [if_neg (by simpa using c)] at h
      rcases List.mem_cons.1 hx with rfl | hx
      · exact c
      · exact firstC_zero h x hx
    · rw [if_pos c] at h; exact absurd h c
theorem firstC_drop {l : List (Fl × FlR)} {k : Nat} {q : Fl × FlR} (h : l[k]? = some q) : firstC ((l.map Prod.fst).drop k) = if flC q.1 ≠ 0 then flC q.1 else firstC ((l.map Prod.fst).drop (k + 1)) := by
  obtain ⟨hj, rfl⟩ := List.getElem?_eq_some_iff.1 h
  rw [List.drop_eq_getElem_cons (i := k) (by simpa using hj), firstC]
  simp
end Go.Proofs.YtacninhhkbglaaaGreatDoor
/-
  Ids that rise, by the program.
-/
namespace Go.Proofs.YtacninhhkbglaaaGreatDoor
open Go.ChangeShapes Go.WideShapes Go.ChangeAt Go.RowKit Go.Sort
theorem riseF_iff (l : List Fl) : riseF l = true ↔ ∀ (i : Nat) x y, l[i]? = some x → l[i + 1]? = some y → x.id < y.id := by
  unfold riseF
  rw [decide_eq_true_eq, List.pairwise_map, List.pairwise_iff_getElem]
  constructor
  · intro h i x y hx hy
    obtain ⟨hi, rfl⟩ := List.getElem?_eq_some_iff.1 hx
    obtain ⟨hj, rfl⟩ := List.getElem?_eq_some_iff.1 hy
    exact h i (i + 1) hi hj (by omega)
  · intro h i j hi hj hij
    have step : ∀ (d : Nat) (hd : i + d + 1 < l.length), l[i].id < l[i + d + 1].id := by
      intro d
      induction d with
      | zero =>
        intro hd
        exact h i _ _ (List.getElem?_eq_getElem hi) (List.getElem?_eq_getElem (by omega))
      | succ d ih =>
        intro hd
        have a := ih (by omega)
        have b := h (i + d + 1) _ _ (List.getElem?_eq_getElem (by omega)) (List.getElem?_eq_getElem (by omega))
        exact Int.lt_trans a b
    have := step (j - i - 1) (by omega)
    have e : i + (j - i - 1) + 1 = j := by omega
    simpa [e] using this
theorem rise_no {l : List (Fl × FlR)} {i : Nat} {x y : Fl × FlR} (hx : l[i]? = some x) (hy : l[i + 1]? = some y) (h : ¬ x.1.id < y.1.id) : riseF (l.map Prod.fst) = false := by
  cases e : riseF (l.map Prod.fst) with
  | false => rfl
  | true => exact absurd ((riseF_iff _).1 e i x.1 y.1 (by simp [hx]) (by simp [hy])) h
set_option maxRecDepth 100000 in
set_option maxHeartbeats 8000000 in
theorem doRise_any (w : World) (a : Option Addr) (cap : Nat) (l : List (Fl × FlR)) (hl : l.length ≤ 24) (hi : FlsIn w a l) :
    Calls Tryz.prog 129 #[.slice a l.length cap] w fun e w' => e = .returned (.bool (riseF (l.map Prod.fst))) ∧ Below w.heap.size w w' := by
  have HI : Hid (FlsIn w a l) := hi
  clear hi
  generalize hn : l.length = n at *
  have HN : Hid (l.length = n) := hn
  clear hn
  go_enter Tryz.func129, Tryz.ntmps129
  go_wp2_with fail
  go_loopw [3] (fun i wr => ∃ j : Nat, j ≤ n ∧ i = .int .i64 ((j : Int) + 1) ∧ (∀ (i : Nat) x y, i < j → l[i]? = some x → l[i + 1]? = some y → x.1.id < y.1.id) ∧ Below w.heap.size w wr) (fun i _ => n + 1 - (intOf i).toNat)
  case atStart => exact ⟨0, Nat.zero_le _, rfl, fun i x y h => absurd h (by omega), Below.refl _ _⟩
  case round =>
    obtain ⟨j, hj, rfl, hno, hb⟩ := hrel
    have HNO : Hid (∀ (i : Nat) x y, i < j → l[i]? = some x → l[i + 1]? = some y → x.1.id < y.1.id) := hno
    clear hno
    by_cases hlt : j + 1 < n
    · obtain ⟨x, hx⟩ : ∃ r, l[j]? = some r := ⟨l[j]'(by have := HN.out; omega), List.getElem?_eq_getElem _⟩
      obtain ⟨y, hy⟩ : ∃ r, l[j + 1]? = some r := ⟨l[j + 1]'(by have := HN.out; omega), List.getElem?_eq_getElem _⟩
      rcases HI.out with e | ⟨b', off', er, hat⟩
      · rw [e] at hx; simp at hx
      have x0 := cell_regrown ((hat.keep hb).cells hx).1
      have y0 := cell_regrown ((hat.keep hb).cells hy).1
      rw [er]
      have g : (j : Int) + 1 < n := by omega
      have g1 : (0 : Int) ≤ (j : Int) + 1 := by omega
      have g2 : (0 : Int) ≤ j := by omega
      have g3 : (j : Int) < n := by omega
      have hw : IntKind.i64.wrap ((j : Int) + 1 - 1) = (j : Int) := by rw [IntKind.wrap_i64]; omega
      have hw' : IntKind.i64.wrap (j : Int) = (j : Int) := by rw [IntKind.wrap_i64]; omega
      have HX : Hid (l[j]? = some x) := hx
      have HY : Hid (l[j + 1]? = some y) := hy
      clear hx hy hat er
      have HID : Hid (∀ d : Int, x.1.id = d → ∀ d' : Int, y.1.id = d' → (¬ d < d' → riseF (l.map Prod.fst) = false) ∧ (d < d' → ∀ (i : Nat) u v, i < j + 1 → l[i]? = some u → l[i + 1]? = some v → u.1.id < v.1.id)) := fun d hd d' hd' => ⟨fun h => rise_no HX.out HY.out (by rw [hd, hd']; exact h), fun h i u v hi hu hv => by
        by_cases e : i = j
        · subst e
          rw [HX.out] at hu
          rw [HY.out] at hv
          obtain rfl := Option.some.inj hu
          obtain rfl := Option.some.inj hv
          rw [hd, hd']
          exact h
        · exact HNO.out i u v (by omega) hu hv⟩
      have HID2 := HID.out x.1.id rfl y.1.id rfl
      have HID3 : Hid ((¬ x.1.id < y.1.id → riseF (l.map Prod.fst) = false) ∧ (x.1.id < y.1.id → ∀ (i : Nat) u v, i < j + 1 → l[i]? = some u → l[i + 1]? = some v → u.1.id < v.1.id)) := HID2
      clear HX HY HNO HID HID2
      generalize x.1.id = xi at *
      generalize y.1.id = yi at *
      by_cases c : yi ≤ xi
      · have HE : Hid (riseF (l.map Prod.fst) = false) := HID3.out.1 (by omega)
        have c' : decide (yi ≤ xi) = true := by simpa using c
        clear HID3
        go_wp2_with fail
        refine wp_region_quiet_below (by kernel_rfl) (by kernel_rfl) ?_
        repeat (go_big_quiet_step (fail))
        refine wpQuiet_nil ?_
        intro w2 hw2
        have hbb : Below w.heap.size w w2 := by
          obtain ⟨⟨d, os⟩, rfl⟩ := hw2
          exact hb.trans ((below_regrown wr d os).mono hb.size)
        clear x0 y0 hw2 hb
        go_wp2_with fail
        go_ret
        exact ⟨ret_bool HE.out.symm, hbb⟩
      · have HF : Hid (∀ (i : Nat) u v, i < j + 1 → l[i]? = some u → l[i + 1]? = some v → u.1.id < v.1.id) := HID3.out.2 (by omega)
        have c' : decide (yi ≤ xi) = false := by simpa using c
        clear HID3
        go_wp2_with fail
        refine wp_region_quiet_below (by kernel_rfl) (by kernel_rfl) ?_
        repeat (go_big_quiet_step (fail))
        refine wpQuiet_nil ?_
        intro w2 hw2
        have hbb : Below w.heap.size w w2 := by
          obtain ⟨⟨d, os⟩, rfl⟩ := hw2
          exact hb.trans ((below_regrown wr d os).mono hb.size)
        clear x0 y0 hw2 hb
        go_wp2_with fail
        go_roundw
        case rel => exact ⟨j + 1, by omega, by go_num, HF.out, hbb⟩
        case measure => simp [intOf]; omega
    · have HE : Hid (riseF (l.map Prod.fst) = true) := (riseF_iff _).2 fun i x y hx hy => by
        obtain ⟨p, hp, rfl⟩ := Option.map_eq_some_iff.1 (by rw [← List.getElem?_map]; exact hx : (l[i]?).map Prod.fst = some x)
        obtain ⟨q, hq, rfl⟩ := Option.map_eq_some_iff.1 (by rw [← List.getElem?_map]; exact hy : (l[i + 1]?).map Prod.fst = some y)
        exact HNO.out i p q (by have := (List.getElem?_eq_some_iff.1 hq).1; have := HN.out; omega) hp hq
      have g : ¬ (j : Int) + 1 < n := by omega
      clear HNO
      go_wp2_with fail
      go_ret
      exact ⟨ret_bool HE.out.symm, hb⟩
end Go.Proofs.YtacninhhkbglaaaGreatDoor
/-
  The fault of a list of flights, by the program.
-/
namespace Go.Proofs.YtacninhhkbglaaaGreatDoor
open Go.ChangeShapes Go.WideShapes Go.ChangeAt Go.RowKit Go.Sort
set_option maxRecDepth 100000 in
set_option maxHeartbeats 8000000 in
theorem implFls_any (E : Errs) (w : World) (a : Option Addr) (cap : Nat) (l : List (Fl × FlR)) (hf : ∀ q ∈ l, FlFit q.1) (hl : l.length ≤ 1048576) (hset : SetIs w) (hE : ErrsIs w E) (hi : FlsIn w a l) :
    Calls Tryz.prog 53 #[.slice a l.length cap] w fun e w' => e = .returned (.int .i64 (flsC (l.map Prod.fst))) ∧ Below w.heap.size w w' := by
  have HI : Hid (FlsIn w a l) := hi
  have HFT : Hid (∀ q ∈ l, FlFit q.1) := hf
  have HSE : Hid (SetIs w ∧ ErrsIs w E) := ⟨hset, hE⟩
  have HRI : Hid (l.length ≤ 24 → ∀ X, Below w.heap.size w X → Calls Tryz.prog 129 #[.slice a l.length cap] X fun e w' => e = .returned (.bool (riseF (l.map Prod.fst))) ∧ Below X.heap.size X w') := fun h X hX => doRise_any X a cap l h (hi.keep hX)
  have HAP : Hid (l.length ≤ 24 → firstC (l.map Prod.fst) = 0 → riseF (l.map Prod.fst) = true → ∀ X, Below w.heap.size w X → Calls Tryz.prog 130 #[.slice a l.length cap] X fun e w' => e = .returned (.bool (keysR (l.map Prod.fst) && nodR (allWr (l.map Prod.fst)))) ∧ Below X.heap.size X w') := fun h h0 hr X hX => by
    have z := areApart_any X a cap l h (fun q hq => by
      have c := flC_zero (firstC_zero h0 q.1 (List.mem_map_of_mem hq))
      exact ⟨c.2.2.2.2.2.2.1, sgsOk_of c.1 (by have := c.2.2.2.1; omega) c.2.2.2.2.2.2.2.1⟩) (hi.keep hX)
    rw [tab_all _ hr] at z
    exact z
  obtain ⟨Z, hZ⟩ : ∃ Z, Hid (flsC (l.map Prod.fst) = Z) := ⟨_, rfl⟩
  rw [hZ.out]
  unfold flsC at hZ
  rw [List.length_map] at hZ
  clear hi hf hset hE
  generalize hn : l.length = n at *
  have HN : Hid (l.length = n) := hn
  clear hn
  by_cases c0 : (24 : Int) < n
  · have HR : Hid (2 = Z) := by have z := hZ.out; rw [if_pos (by omega)] at z; exact z
    clear hZ
    go_enter Tryz.func53, Tryz.ntmps53
    go_wp2_with fail
    go_ret
    exact ⟨ret_int HR.out, Below.refl _ _⟩
  rw [if_neg (by omega)] at hZ
  have HRI2 := HRI.out (by omega)
  have HRI3 : Hid (∀ X, Below w.heap.size w X → Calls Tryz.prog 129 #[.slice a n cap] X fun e w' => e = .returned (.bool (riseF (l.map Prod.fst))) ∧ Below X.heap.size X w') := HRI2
  have HAP2 := HAP.out (by omega)
  have HAP3 : Hid (firstC (l.map Prod.fst) = 0 → riseF (l.map Prod.fst) = true → ∀ X, Below w.heap.size w X → Calls Tryz.prog 130 #[.slice a n cap] X fun e w' => e = .returned (.bool (keysR (l.map Prod.fst) && nodR (allWr (l.map Prod.fst)))) ∧ Below X.heap.size X w') := HAP2
  clear HRI HAP HRI2 HAP2
  go_enter Tryz.func53, Tryz.ntmps53
  go_wp2_with fail
  go_loopw [11] (fun i wr => ∃ k : Nat, k ≤ n ∧ i = .int .i64 k ∧ firstC (l.map Prod.fst) = firstC ((l.map Prod.fst).drop k) ∧ Below w.heap.size w wr) (fun i _ => n - (intOf i).toNat)
  case atStart => exact ⟨0, Nat.zero_le _, rfl, rfl, Below.refl _ _⟩
  case round =>
    obtain ⟨k, hk, rfl, hfc, hb⟩ := hrel
    have HFC : Hid (firstC (l.map Prod.fst) = firstC ((l.map Prod.fst).drop k)) := hfc
    clear hfc
    by_cases hlt : k < n
    · obtain ⟨q, hq⟩ : ∃ q, l[k]? = some q := ⟨l[k]'(by have := HN.out; omega), List.getElem?_eq_getElem _⟩
      rcases HI.out with e | ⟨b1, o1, er, hat⟩
      · rw [e] at hq; simp at hq
      have PC := (hat.keep hb).cells hq
      have PI := (hat.keep hb).in hq
      have ft := HFT.out q (List.mem_of_getElem? hq)
      rw [er]
      have g : (k : Int) < n := by omega
      have g0 : (0 : Int) ≤ k := by omega
      have HD : Hid (firstC (l.map Prod.fst) = if flC q.1 ≠ 0 then flC q.1 else firstC ((l.map Prod.fst).drop (k + 1))) := by show _ = _; rw [HFC.out, firstC_drop hq]
      have HB : Hid (Below w.heap.size w wr) := hb
      have HC : Hid (∀ X, Below wr.heap.size wr X → Calls Tryz.prog 81 #[.agg #[.int .i64 q.1.id, .string q.1.key, .bool q.1.bk, .bool q.1.ot, .int .i64 q.1.du, .bool q.1.dm, .string q.1.m, .string q.1.h, .string q.1.p, .slice q.2.ha q.1.hs.length q.2.hc, .slice q.2.wa q.1.ws.length q.2.wc]] X fun e w' => e = .returned (.int .i64 (flC q.1)) ∧ Below X.heap.size X w') := fun X hX => by
        have bX := HB.out.trans (hX.mono HB.out.size)
        exact implFl_any E X q.1 q.2 ft (HSE.out.1.below bX) (HSE.out.2.below bX) (PI.keep hX)
      have p0 := PC.1
      have p1 := PC.2.1
      have p2 := PC.2.2.1
      have p3 := PC.2.2.2.1
      have p4 := PC.2.2.2.2.1
      have p5 := PC.2.2.2.2.2.1
      have p6 := PC.2.2.2.2.2.2.1
      have p7 := PC.2.2.2.2.2.2.2.1
      have p8 := PC.2.2.2.2.2.2.2.2.1
      have p9 := PC.2.2.2.2.2.2.2.2.2.1
      have p10 := PC.2.2.2.2.2.2.2.2.2.2
      clear PC PI hq hat hb er ft HFC
      generalize flC q.1 = fc at *
      obtain ⟨⟨id, key, bk, ot, du, dm, mt, ho, pa, hs, ws⟩, ⟨ha, hc, wa, wc⟩⟩ := q
      simp only at p0 p1 p2 p3 p4 p5 p6 p7 p8 p9 p10 HC
      generalize hs.length = hl at *
      generalize ws.length = wn at *
      obtain ⟨W2, hW2⟩ : ∃ X, X = wr.alloc (.cells #[.int .i64 id, .string key, .bool bk, .bool ot, .int .i64 du, .bool dm, .string mt, .string ho, .string pa, .slice ha hl hc, .slice wa wn wc] 86) := ⟨_, rfl⟩
      have HW2 : Hid (W2 = wr.alloc (.cells #[.int .i64 id, .string key, .bool bk, .bool ot, .int .i64 du, .bool dm, .string mt, .string ho, .string pa, .slice ha hl hc, .slice wa wn wc] 86)) := hW2
      have B2 : Hid (Below wr.heap.size wr W2) := by show Below _ _ _; rw [hW2]; exact (Below.refl _ _).alloc (Nat.le_refl _) _
      clear hW2
      go_wp2_with fail
      rw [← HW2.out]
      clear HW2 p0 p1 p2 p3 p4 p5 p6 p7 p8 p9 p10
      refine (HC.out _ B2.out).mono ?_
      rintro e0 w3 ⟨rfl, hb3⟩
      have B3 : Hid (Below w.heap.size w w3) := HB.out.trans ((B2.out.trans (hb3.mono B2.out.size)).mono HB.out.size)
      clear hb3 B2 HB HC
      by_cases c3 : fc = 0
      rotate_left
      · have HR : Hid (fc = Z) := by have z := hZ.out; rw [HD.out, if_pos c3, if_pos c3] at z; exact z
        have c3' : (fc != 0) = true := by simpa using c3
        clear hZ HD c3
        go_wp2_with fail
        go_ret
        exact ⟨ret_int HR.out, B3.out⟩
      subst c3
      have HD2 : Hid (firstC (l.map Prod.fst) = firstC ((l.map Prod.fst).drop (k + 1))) := by have z := HD.out; rw [if_neg (by simp)] at z; exact z
      clear HD
      go_wp2_with fail
      go_roundw
      case rel => exact ⟨k + 1, by omega, by go_num, HD2.out, B3.out⟩
      case measure => simp [intOf]; omega
    · have h0 : firstC (l.map Prod.fst) = 0 := by
        rw [HFC.out, List.drop_of_length_le (by have := HN.out; simp; omega)]
        rfl
      rw [h0, if_neg (by simp)] at hZ
      have HAP4 := HAP3.out h0
      have HAP5 : Hid (riseF (l.map Prod.fst) = true → ∀ X, Below w.heap.size w X → Calls Tryz.prog 130 #[.slice a n cap] X fun e w' => e = .returned (.bool (keysR (l.map Prod.fst) && nodR (allWr (l.map Prod.fst)))) ∧ Below X.heap.size X w') := HAP4
      have HB : Hid (Below w.heap.size w wr) := hb
      clear HFC HAP3 HAP4 h0 hb
      go_wp2_with fail
      refine (HRI3.out _ HB.out).mono ?_
      rintro e0 w4 ⟨rfl, hb4⟩
      have B4 : Hid (Below w.heap.size w w4) := HB.out.trans (hb4.mono HB.out.size)
      clear hb4 HB HRI3
      generalize riseF (l.map Prod.fst) = ri at *
      cases ri
      · have HR : Hid (1 = Z) := hZ.out
        clear hZ HAP5
        go_wp2_with fail
        go_ret
        exact ⟨ret_int HR.out, B4.out⟩
      have HAP6 := HAP5.out rfl
      have HAP7 : Hid (∀ X, Below w.heap.size w X → Calls Tryz.prog 130 #[.slice a n cap] X fun e w' => e = .returned (.bool (keysR (l.map Prod.fst) && nodR (allWr (l.map Prod.fst)))) ∧ Below X.heap.size X w') := HAP6
      clear HAP5 HAP6
      go_wp2_with fail
      refine (HAP7.out _ B4.out).mono ?_
      rintro e0 w5 ⟨rfl, hb5⟩
      have B5 : Hid (Below w.heap.size w w5) := B4.out.trans (hb5.mono B4.out.size)
      clear hb5 B4 HAP7
      generalize (keysR (l.map Prod.fst) && nodR (allWr (l.map Prod.fst))) = ap at *
      cases ap
      · have HR : Hid (6 = Z) := hZ.out
        clear hZ
        go_wp2_with fail
        go_ret
        exact ⟨ret_int HR.out, B5.out⟩
      · have HR : Hid (0 = Z) := hZ.out
        clear hZ
        go_wp2_with fail
        go_ret
        exact ⟨ret_int HR.out, B5.out⟩
end Go.Proofs.YtacninhhkbglaaaGreatDoor
/-
  Where a sign stands in a list of flights, plainly.
-/
namespace Go.Proofs.YtacninhhkbglaaaGreatDoor
open Go.ChangeShapes Go.WideShapes Go.ChangeAt Go.RowKit Go.Sort
def hasS (l : List Sg) (y : Sg) : Bool := l.any (sgEq y)
theorem hasS_iff {l : List Sg} {y : Sg} : hasS l y = true ↔ y ∈ l := by
  unfold hasS
  rw [List.any_eq_true]
  exact ⟨fun ⟨x, hx, e⟩ => by have q := sgEq_iff.1 e; subst q; exact hx, fun h => ⟨y, h, sgEq_iff.2 rfl⟩⟩
theorem tabS_val (k : Nat) : ∀ (l : List Sg) (p : Sg → Option Nat) (a : Bool) (y : Sg), (tabS k l p a).1 y = if hasS l y = true then some k else p y
  | [], p, a, y => by simp [tabS, hasS]
  | s :: l, p, a, y => by
    rw [tabS, tabS_val k l]
    have e : hasS (s :: l) y = (sgEq y s || hasS l y) := rfl
    rw [e]
    cases hasS l y <;> cases sgEq y s <;> simp
/-- The first flight that is known by a sign. -/
def idxS (y : Sg) : Nat → List Fl → Option Nat
  | _, [] => none
  | k, x :: l => if hasS (signsF x) y = true then some k else idxS y (k + 1) l
theorem idxS_none (y : Sg) : ∀ (l : List Fl) (k : Nat), y ∉ allSg l → idxS y k l = none
  | [], _, _ => rfl
  | x :: l, k, h => by
    have e : allSg (x :: l) = signsF x ++ allSg l := rfl
    rw [e, List.mem_append] at h
    rw [idxS, if_neg (fun q => h (.inl (hasS_iff.1 q))), idxS_none y l (k + 1) (fun q => h (.inr q))]
theorem tabF_val (y : Sg) : ∀ (l : List Fl) (k : Nat) (p : Sg → Option Nat) (a : Bool), (allSg l).Nodup → (tabF k l p a).1 y = match idxS y k l with | some i => some i | none => p y
  | [], _, _, _, _ => rfl
  | x :: l, k, p, a, h => by
    have e : allSg (x :: l) = signsF x ++ allSg l := rfl
    rw [e, List.nodup_append] at h
    rw [tabF, tabF_val y l (k + 1) _ _ h.2.1, tabS_val, idxS]
    by_cases c : hasS (signsF x) y = true
    · rw [if_pos c, if_pos c, idxS_none y l (k + 1) (fun q => h.2.2 y (hasS_iff.1 c) y q rfl)]
    · rw [if_neg c, if_neg c]
theorem flsC_zero {l : List Fl} (h : flsC l = 0) : l.length ≤ 24 ∧ firstC l = 0 ∧ riseF l = true ∧ (keysR l && nodR (allWr l)) = true := by
  unfold flsC at h
  split at h
  · cases h
  · rename_i h1
    split at h
    · rename_i h2; exact absurd h h2
    · rename_i h2
      split at h
      · cases h
      · rename_i h3
        split at h
        · cases h
        · rename_i h4
          exact ⟨by omega, by simpa using h2, by simpa using h3, by simpa using h4⟩
theorem tab_place {l : List Fl} (h : flsC l = 0) (y : Sg) : (tabF 0 l none3 true).1 y = idxS y 0 l := by
  obtain ⟨_, _, hr, hk⟩ := flsC_zero h
  have hn : (allSg l).Nodup := ((tabF_iff l 0 none3 true).1 (by rw [tab_all l hr]; exact hk)).2.1
  rw [tabF_val y l 0 none3 true hn]
  cases idxS y 0 l <;> rfl
theorem hasS_key (x : Fl) (key : ByteArray) : hasS (signsF x) ⟨1, 0, key⟩ = decide (x.key = key) := by
  cases h : hasS (signsF x) ⟨1, 0, key⟩ with
  | true =>
    have m := hasS_iff.1 h
    unfold signsF at m
    rcases List.mem_cons.1 m with e | m
    · have := congrArg Sg.kd e; simp at this
    · rcases List.mem_cons.1 m with e | m
      · have := congrArg Sg.tx e
        simp at this
        simp [this]
      · obtain ⟨y, _, e⟩ := List.mem_map.1 m
        have := congrArg Sg.kd e
        simp [wSign] at this
  | false =>
    symm
    rw [decide_eq_false_iff_not]
    intro e
    subst e
    rw [← Bool.not_eq_true, hasS_iff] at h
    exact h (by unfold signsF; simp)
theorem hasS_id (x : Fl) (id : Int) : hasS (signsF x) ⟨0, id, ⟨#[]⟩⟩ = decide (x.id = id) := by
  cases h : hasS (signsF x) ⟨0, id, ⟨#[]⟩⟩ with
  | true =>
    have m := hasS_iff.1 h
    unfold signsF at m
    rcases List.mem_cons.1 m with e | m
    · have := congrArg Sg.nm e
      simp at this
      simp [this]
    · rcases List.mem_cons.1 m with e | m
      · have := congrArg Sg.kd e; simp at this
      · obtain ⟨y, _, e⟩ := List.mem_map.1 m
        have := congrArg Sg.kd e
        simp [wSign] at this
  | false =>
    symm
    rw [decide_eq_false_iff_not]
    intro e
    subst e
    rw [← Bool.not_eq_true, hasS_iff] at h
    exact h (by unfold signsF; simp)
/-- What is told of a place: code and value. -/
def placeR (l : List Fl) (y : Sg) : Int × Int := if flsC l = 0 then (match idxS y 0 l with | some i => (0, (i : Int)) | none => (4, 0)) else (flsC l, 0)
theorem idxS_lt (y : Sg) : ∀ (l : List Fl) (k i : Nat), idxS y k l = some i → k ≤ i ∧ i < k + l.length
  | [], _, _, h => by cases h
  | x :: l, k, i, h => by
    rw [idxS] at h
    split at h
    · obtain rfl := Option.some.inj h
      exact ⟨Nat.le_refl _, by simp⟩
    · obtain ⟨a, b⟩ := idxS_lt y l (k + 1) i h
      exact ⟨by omega, by simp; omega⟩
end Go.Proofs.YtacninhhkbglaaaGreatDoor
/-
  A flight that is known by a sign, by the program.
-/
namespace Go.Proofs.YtacninhhkbglaaaGreatDoor
open Go.ChangeShapes Go.WideShapes Go.ChangeAt Go.RowKit Go.Sort
end Go.Proofs.YtacninhhkbglaaaGreatDoor
/-
  The fault of a flight, by the model.
-/
namespace Go.Proofs.YtacninhhkbglaaaGreatDoor
open Go.ChangeShapes Go.WideShapes Go.ChangeAt Go.RowKit Go.Sort
set_option maxRecDepth 100000 in
set_option maxHeartbeats 8000000 in
theorem l12Twice_any (w : World) (a : Option Addr) (cap : Nat) (l : List Wr) (hl : l.length ≤ 1048576) (hi : WrIn w a l) :
    Calls Tryz.prog 106 #[.slice a l.length cap] w fun e w' => e = .returned (.bool (!nodR l)) ∧ Below w.heap.size w w' := by
  have HI : Hid (WrIn w a l) := hi
  clear hi
  generalize hn : l.length = n at *
  have HN : Hid (l.length = n) := hn
  clear hn
  go_enter Tryz.func106, Tryz.ntmps106
  go_wp2_with fail
  go_loopw [3] (fun i wr => ∃ k : Nat, k ≤ n ∧ i = .int .i64 k ∧ (∀ (i j : Nat) x y, i < k → j < i → l[i]? = some x → l[j]? = some y → x.rq ≠ y.rq) ∧ Below w.heap.size w wr) (fun i _ => n - (intOf i).toNat)
  case atStart => exact ⟨0, Nat.zero_le _, rfl, fun i j x y h => absurd h (by omega), Below.refl _ _⟩
  case round =>
    obtain ⟨k, hk, rfl, hno, hb⟩ := hrel
    have HNO : Hid (∀ (i j : Nat) x y, i < k → j < i → l[i]? = some x → l[j]? = some y → x.rq ≠ y.rq) := hno
    have HB : Hid (Below w.heap.size w wr) := hb
    clear hno hb
    by_cases hlt : k < n
    · obtain ⟨x, hx⟩ : ∃ r, l[k]? = some r := ⟨l[k]'(by have := HN.out; omega), List.getElem?_eq_getElem _⟩
      have HX : Hid (l[k]? = some x) := hx
      clear hx
      have g : (k : Int) < n := by omega
      have g0 : (0 : Int) ≤ k := by omega
      go_wp2_with fail
      obtain ⟨wo, hwo⟩ : ∃ wo : World, wo = wr := ⟨_, rfl⟩
      subst hwo
      go_loopw [4] (fun i wr => ∃ m : Nat, m ≤ k ∧ i = .int .i64 m ∧ (∀ (j : Nat) y, j < m → l[j]? = some y → x.rq ≠ y.rq) ∧ Below w.heap.size w wr) (fun i _ => k - (intOf i).toNat)
      case atStart => exact ⟨0, Nat.zero_le _, rfl, fun j y h => absurd h (by omega), HB.out⟩
      case round =>
        obtain ⟨m, hm, rfl, hnj, hb⟩ := hrel
        have HNJ : Hid (∀ (j : Nat) y, j < m → l[j]? = some y → x.rq ≠ y.rq) := hnj
        clear hnj HB
        by_cases hlm : m < k
        · obtain ⟨y, hy⟩ : ∃ r, l[m]? = some r := ⟨l[m]'(by have := HN.out; omega), List.getElem?_eq_getElem _⟩
          have hx := HX.out
          rcases HI.out with e | ⟨b', off', er, hat⟩
          · rw [e] at hy; simp at hy
          obtain ⟨p0, p1, p2, p3⟩ := (hat.keep hb) k x hx
          obtain ⟨q0, q1, q2, q3⟩ := (hat.keep hb) m y hy
          rw [er]
          have x0 := cell_regrown p0
          have y0 := cell_regrown q0
          have gm : (m : Int) < n := by omega
          have gk : (m : Int) < k := by omega
          have gm0 : (0 : Int) ≤ m := by omega
          have HY : Hid (l[m]? = some y) := hy
          clear hx hy hat p0 p1 p2 p3 q0 q1 q2 q3
          obtain ⟨xr, xh, xd, xl⟩ := x
          obtain ⟨yr, yh, yd, yl⟩ := y
          simp only at x0 y0
          by_cases he : xr = yr
          · have HE : Hid (nodR l = false) := nodR_no hlm HX.out HY.out he
            subst he
            go_wp2_with fail
            refine wp_region_quiet_below (by kernel_rfl) (by kernel_rfl) ?_
            repeat (go_big_quiet_step (fail))
            refine wpQuiet_nil ?_
            intro w2 hw2
            have hbb : Below w.heap.size w w2 := by
              obtain ⟨⟨d, os⟩, rfl⟩ := hw2
              exact hb.trans ((below_regrown wr d os).mono hb.size)
            clear x0 y0 hw2 hb
            go_wp2_with fail
            go_ret
            exact ⟨by rw [HE.out]; rfl, hbb⟩
          · have he2 : (xr == yr) = false := by simpa using he
            have HN2 : Hid (∀ (j : Nat) y, j < m + 1 → l[j]? = some y → xr ≠ y.rq) := fun j z hj hz => by
              by_cases e : j = m
              · subst e
                rw [HY.out] at hz
                obtain rfl := Option.some.inj hz
                exact he
              · exact HNJ.out j z (by omega) hz
            clear he
            go_wp2_with fail
            refine wp_region_quiet_below (by kernel_rfl) (by kernel_rfl) ?_
            repeat (go_big_quiet_step (fail))
            refine wpQuiet_nil ?_
            intro w2 hw2
            have hbb : Below w.heap.size w w2 := by
              obtain ⟨⟨d, os⟩, rfl⟩ := hw2
              exact hb.trans ((below_regrown wr d os).mono hb.size)
            clear x0 y0 hw2 hb
            go_wp2_with fail
            go_roundw
            case rel => exact ⟨m + 1, by omega, by go_num, HN2.out, hbb⟩
            case measure => simp [intOf]; omega
        · have HF : Hid (∀ (i j : Nat) x y, i < k + 1 → j < i → l[i]? = some x → l[j]? = some y → x.rq ≠ y.rq) := fun i j u v hi hj hu hv => by
            by_cases e : i = k
            · subst e
              rw [HX.out] at hu
              obtain rfl := Option.some.inj hu
              exact HNJ.out j v (by omega) hv
            · exact HNO.out i j u v (by omega) hj hu hv
          clear HNJ
          go_wp2_with fail
          go_roundw
          case rel => exact ⟨k + 1, by omega, by go_num, HF.out, hb⟩
          case measure => simp [intOf]; omega
    · have HE : Hid (nodR l = true) := (nodR_iff l).2 fun i j x y hj hx hy => HNO.out i j x y (by have := (List.getElem?_eq_some_iff.1 hx).1; have := HN.out; omega) hj hx hy
      clear HNO
      go_wp2_with fail
      go_ret
      exact ⟨by rw [HE.out]; rfl, HB.out⟩
set_option maxRecDepth 100000 in
set_option maxHeartbeats 8000000 in
theorem specFl_any (w : World) (x : Fl) (r : FlR) (hf : FlFit x) (hi : FlIn w x r) :
    Calls Tryz.prog 75 #[.agg #[.int .i64 x.id, .string x.key, .bool x.bk, .bool x.ot, .int .i64 x.du, .bool x.dm, .string x.m, .string x.h, .string x.p, .slice r.ha x.hs.length r.hc, .slice r.wa x.ws.length r.wc]] w fun e w' => e = .returned (.int .i64 (flC x)) ∧ Below w.heap.size w w' := by
  obtain ⟨W, hW⟩ : ∃ W, W = w.alloc (.cells #[.int .i64 x.id, .string x.key, .bool x.bk, .bool x.ot, .int .i64 x.du, .bool x.dm, .string x.m, .string x.h, .string x.p, .slice r.ha x.hs.length r.hc, .slice r.wa x.ws.length r.wc] 86) := ⟨_, rfl⟩
  have HW : Hid (W = w.alloc (.cells #[.int .i64 x.id, .string x.key, .bool x.bk, .bool x.ot, .int .i64 x.du, .bool x.dm, .string x.m, .string x.h, .string x.p, .slice r.ha x.hs.length r.hc, .slice r.wa x.ws.length r.wc] 86)) := hW
  have B0 : Hid (Below w.heap.size w W) := by show Below _ _ _; rw [hW]; exact (Below.refl _ _).alloc (Nat.le_refl _) _
  have HE : Hid (∀ X, Below W.heap.size W X → E11 X w.heap.size (.int .i64 x.id) (.string x.key) (.bool x.bk) (.bool x.ot) (.int .i64 x.du) (.bool x.dm) (.string x.m) (.string x.h) (.string x.p) (.slice r.ha x.hs.length r.hc) (.slice r.wa x.ws.length r.wc)) := fun X hX => by
    have := E11.new w (.int .i64 x.id) (.string x.key) (.bool x.bk) (.bool x.ot) (.int .i64 x.du) (.bool x.dm) (.string x.m) (.string x.h) (.string x.p) (.slice r.ha x.hs.length r.hc) (.slice r.wa x.ws.length r.wc) 86
    rw [← hW] at this
    exact this.keep hX
  have HT : Hid (∀ (z : Int) X, Calls Tryz.prog 39 #[.int .i64 z] X fun e w' => e = .returned (.bool (timeB z)) ∧ w' = X) := fun z X => l1Time_all z X
  have HQ : Hid (∀ X, Below w.heap.size w X → Calls Tryz.prog 160 #[.agg #[.string x.m, .string x.h, .string x.p, .slice r.ha x.hs.length r.hc]] X fun e w' => e = .returned (.int .i64 (reqC x.m x.h x.p x.hs)) ∧ Below X.heap.size X w') := fun X hX => specReq_any X _ _ _ _ _ _ hf.h (hi.h.keep hX)
  have HTW : Hid (∀ X, Below w.heap.size w X → Calls Tryz.prog 106 #[.slice r.wa x.ws.length r.wc] X fun e w' => e = .returned (.bool (!nodR x.ws)) ∧ Below X.heap.size X w') := fun X hX => l12Twice_any X _ _ _ hf.w (hi.k.keep hX)
  have HWI : Hid (∀ X, Below w.heap.size w X → WrIn X r.wa x.ws) := fun X hX => hi.k.keep hX
  obtain ⟨Z, hZ⟩ : ∃ Z, Hid (flC x = Z) := ⟨_, rfl⟩
  rw [hZ.out]
  unfold flC at hZ
  have hks : x.key.size ≤ 1048576 := hf.key
  clear hW hi hf
  obtain ⟨id, key, bk, ot, du, dm, m, h, p, hs, ws⟩ := x
  obtain ⟨ha, hc, wa, wc⟩ := r
  simp only at HW HE HQ HTW HWI hZ hks ⊢
  generalize reqC m h p hs = rq at *
  generalize hs.length = hl at *
  generalize hn : ws.length = wn at *
  have HN : Hid (ws.length = wn) := hn
  clear hn
  go_enter Tryz.func75, Tryz.ntmps75
  go_wp2_with fail
  rw [← HW.out]
  clear HW
  obtain ⟨e0, e1, e2, e3, e4, e5, e6, e7, e8, e9, e10, _, _⟩ := HE.out W (Below.refl _ _)
  refine (HT.out _ _).mono ?_
  rintro z0 w1 ⟨rfl, rfl⟩
  generalize timeB id = t1 at *
  cases t1
  · have HR : Hid (3 = Z) := hZ.out
    clear hZ
    go_wp2_with fail
    go_ret
    exact ⟨ret_int HR.out, B0.out⟩
  go_wp2_with fail
  refine (HT.out _ _).mono ?_
  rintro z0 w2 ⟨rfl, rfl⟩
  generalize timeB du = t2 at *
  cases t2
  · have HR : Hid (3 = Z) := hZ.out
    clear hZ
    go_wp2_with fail
    go_ret
    exact ⟨ret_int HR.out, B0.out⟩
  rw [Bool.and_true, flC5, if_neg (by decide)] at hZ
  by_cases c1 : (key.size : Int) < 1
  · have HR : Hid (2 = Z) := by have z := hZ.out; rw [if_pos (.inl (by omega))] at z; exact z
    clear hZ
    go_wp2_with fail
    go_ret
    exact ⟨ret_int HR.out, B0.out⟩
  by_cases c2 : (500 : Int) < key.size
  · have HR : Hid (2 = Z) := by have z := hZ.out; rw [if_pos (.inr (by omega))] at z; exact z
    clear hZ
    go_wp2_with fail
    go_ret
    exact ⟨ret_int HR.out, B0.out⟩
  rw [if_neg (by omega)] at hZ
  go_wp2_with fail
  refine (HQ.out _ B0.out).mono ?_
  rintro z0 w3 ⟨rfl, hb3⟩
  have B3 : Hid (Below w.heap.size w w3) := B0.out.trans (hb3.mono B0.out.size)
  have HE3 : Hid (∀ X, Below w3.heap.size w3 X → E11 X w.heap.size (.int .i64 id) (.string key) (.bool bk) (.bool ot) (.int .i64 du) (.bool dm) (.string m) (.string h) (.string p) (.slice ha hl hc) (.slice wa wn wc)) := fun X hX => HE.out X (hb3.trans (hX.mono hb3.size))
  clear hb3 e0 e1 e2 e3 e4 e5 e6 e7 e8 e9 e10 HE B0 HQ
  by_cases c3 : rq = 0
  rotate_left
  · have HR : Hid (rq = Z) := by have z := hZ.out; rw [if_pos c3] at z; exact z
    have c3' : (rq != 0) = true := by simpa using c3
    clear hZ c3
    go_wp2_with fail
    go_ret
    exact ⟨ret_int HR.out, B3.out⟩
  subst c3
  rw [if_neg (by simp)] at hZ
  obtain ⟨e0, e1, e2, e3, e4, e5, e6, e7, e8, e9, e10, _, _⟩ := HE3.out w3 (Below.refl _ _)
  by_cases c4 : ot = false ∧ du ≠ 0
  · have HR : Hid (8 = Z) := by have z := hZ.out; rw [if_pos c4] at z; exact z
    obtain ⟨rfl, c5⟩ := c4
    have c5' : (du != 0) = true := by simpa using c5
    clear hZ c5
    go_wp2_with fail
    go_ret
    exact ⟨ret_int HR.out, B3.out⟩
  rw [if_neg c4] at hZ
  go_upto_region 8 with fail
  go_cut [38] from 31 to 37 (fun s38 wx => s38 = .bool false ∧ wx = w3)
  case first =>
    cases ot
    · have c5 : du = 0 := Classical.byContradiction fun h => c4 ⟨rfl, h⟩
      subst c5
      clear c4
      go_wp2_with fail
      go_meet
      exact ⟨rfl, rfl⟩
    · clear c4
      go_wp2_with fail
      go_meet
      exact ⟨rfl, rfl⟩
  case rest =>
  obtain ⟨rfl, rfl⟩ := hcut
  clear c4
  by_cases c6 : (10 : Int) < wn
  · have HR : Hid (2 = Z) := by have z := hZ.out; rw [if_pos (by omega)] at z; exact z
    clear hZ
    go_wp2_with fail
    go_ret
    exact ⟨ret_int HR.out, B3.out⟩
  rw [if_neg (by omega)] at hZ
  go_wp2_with fail
  clear e0 e1 e2 e3 e4 e5 e6 e7 e8 e9 e10
  go_loopw [4] (fun i wr => ∃ k : Nat, k ≤ wn ∧ i = .int .i64 k ∧ (∀ (i : Nat) x, i < k → ws[i]? = some x → waitOk x = true) ∧ Below wc.heap.size wc wr) (fun i _ => wn - (intOf i).toNat)
  case atStart => exact ⟨0, Nat.zero_le _, rfl, fun i x h => absurd h (by omega), Below.refl _ _⟩
  case round =>
    obtain ⟨k, hk, rfl, hno, hb⟩ := hrel
    have HNO : Hid (∀ (i : Nat) x, i < k → ws[i]? = some x → waitOk x = true) := hno
    have HB : Hid (Below wc.heap.size wc wr) := hb
    have BW : Hid (Below w.heap.size w wr) := B3.out.trans (hb.mono B3.out.size)
    obtain ⟨e0, e1, e2, e3, e4, e5, e6, e7, e8, e9, e10, _, _⟩ := HE3.out wr hb
    clear hno hb
    by_cases hlt : k < wn
    · obtain ⟨x, hx⟩ : ∃ r, ws[k]? = some r := ⟨ws[k]'(by have := HN.out; omega), List.getElem?_eq_getElem _⟩
      rcases HWI.out wr BW.out with e | ⟨b', off', er, hat⟩
      · rw [e] at hx; simp at hx
      obtain ⟨p0, p1, p2, p3⟩ := hat k x hx
      rw [er] at e10
      clear er
      have g : (k : Int) < wn := by omega
      have g0 : (0 : Int) ≤ k := by omega
      have HX : Hid (ws[k]? = some x) := hx
      have HSUC : Hid (waitOk x = true → ∀ (i : Nat) y, i < k + 1 → ws[i]? = some y → waitOk y = true) := fun hw i y hi hy => by
        by_cases e : i = k
        · subst e
          rw [HX.out] at hy
          obtain rfl := Option.some.inj hy
          exact hw
        · exact HNO.out i y (by omega) hy
      have HBAD : Hid (waitOk x = false → allOk ws = false) := fun hw => allOk_no HX.out hw
      obtain ⟨xr, xh, xd, xl⟩ := x
      have hwk : waitOk ⟨xr, xh, xd, xl⟩ = (timeB xr && timeB xd) := rfl
      rw [hwk] at HSUC HBAD
      simp only at p0 p1 p2 p3
      clear hx hat hwk
      go_wp2_with fail
      refine (HT.out _ _).mono ?_
      rintro z0 w5 ⟨rfl, rfl⟩
      generalize timeB xr = t3 at *
      cases t3
      · have HR : Hid (3 = Z) := by have z := hZ.out; rw [if_pos (HBAD.out rfl)] at z; exact z
        clear hZ HBAD HSUC
        go_wp2_with fail
        go_ret
        exact ⟨ret_int HR.out, BW.out⟩
      go_wp2_with fail
      refine (HT.out _ _).mono ?_
      rintro z0 w6 ⟨rfl, rfl⟩
      generalize timeB xd = t4 at *
      cases t4
      · have HR : Hid (3 = Z) := by have z := hZ.out; rw [if_pos (HBAD.out rfl)] at z; exact z
        clear hZ HBAD HSUC
        go_wp2_with fail
        go_ret
        exact ⟨ret_int HR.out, BW.out⟩
      have HS2 := HSUC.out rfl
      clear HBAD HSUC
      go_wp2_with fail
      go_roundw
      case rel => exact ⟨k + 1, by omega, by go_num, HS2, HB.out⟩
      case measure => simp [intOf]; omega
    · have hall : allOk ws = true := (allOk_iff ws).2 fun i x hx => HNO.out i x (by have := (List.getElem?_eq_some_iff.1 hx).1; have := HN.out; omega) hx
      rw [hall, if_neg (by decide)] at hZ
      clear HNO hall
      go_wp2_with fail
      refine (HTW.out _ BW.out).mono ?_
      rintro z0 w7 ⟨rfl, hb7⟩
      have B7 : Hid (Below w.heap.size w w7) := BW.out.trans (hb7.mono BW.out.size)
      clear hb7 e0 e1 e2 e3 e4 e5 e6 e7 e8 e9 e10
      generalize nodR ws = nd at *
      cases nd
      · have HR : Hid (6 = Z) := hZ.out
        clear hZ
        go_wp2_with fail
        go_ret
        exact ⟨ret_int HR.out, B7.out⟩
      · have HR : Hid (0 = Z) := hZ.out
        clear hZ
        go_wp2_with fail
        go_ret
        exact ⟨ret_int HR.out, B7.out⟩
end Go.Proofs.YtacninhhkbglaaaGreatDoor
/-
  The fault of a list of flights, by the model.
-/
namespace Go.Proofs.YtacninhhkbglaaaGreatDoor
open Go.ChangeShapes Go.WideShapes Go.ChangeAt Go.RowKit Go.Sort
theorem bt_inj {a b : ByteArray} (h : a.toList = b.toList) : a = b := by
  rw [ByteArray.toList_eq, ByteArray.toList_eq] at h
  exact ByteArray.ext (Array.toList_inj.1 h)
theorem keysR_iff (l : List Fl) : keysR l = true ↔ ∀ (i j : Nat) x y, j < i → l[i]? = some x → l[j]? = some y → x.key ≠ y.key := by
  unfold keysR
  rw [decide_eq_true_eq, List.Nodup, List.pairwise_iff_getElem]
  constructor
  · intro h i j x y hji hx hy e
    obtain ⟨hi, rfl⟩ := List.getElem?_eq_some_iff.1 hx
    obtain ⟨hj, rfl⟩ := List.getElem?_eq_some_iff.1 hy
    exact h j i (by simpa using hj) (by simpa using hi) hji (by simpa using e.symm)
  · intro h i j hi hj hij
    simp only [List.length_map] at hi hj
    simp only [List.getElem_map]
    exact fun e => h j i _ _ hij (List.getElem?_eq_getElem hj) (List.getElem?_eq_getElem hi) e.symm
theorem keysR_no {l : List (Fl × FlR)} {i j : Nat} {x y : Fl × FlR} (hji : j < i) (hx : l[i]? = some x) (hy : l[j]? = some y) (h : x.1.key = y.1.key) : keysR (l.map Prod.fst) = false := by
  cases e : keysR (l.map Prod.fst) with
  | false => rfl
  | true => exact absurd h ((keysR_iff _).1 e i j x.1 y.1 hji (by simp [hx]) (by simp [hy]))
theorem keysR_yes {l : List (Fl × FlR)} (h : ∀ (i j : Nat) x y, j < i → l[i]? = some x → l[j]? = some y → x.1.key ≠ y.1.key) : keysR (l.map Prod.fst) = true := (keysR_iff _).2 fun i j x y hji hx hy => by
  obtain ⟨p, hp, rfl⟩ := Option.map_eq_some_iff.1 (by rw [← List.getElem?_map]; exact hx : (l[i]?).map Prod.fst = some x)
  obtain ⟨q, hq, rfl⟩ := Option.map_eq_some_iff.1 (by rw [← List.getElem?_map]; exact hy : (l[j]?).map Prod.fst = some y)
  exact h i j p q hji hp hq
theorem riseF_yes {l : List (Fl × FlR)} (h : ∀ (i : Nat) x y, l[i]? = some x → l[i + 1]? = some y → x.1.id < y.1.id) : riseF (l.map Prod.fst) = true := (riseF_iff _).2 fun i x y hx hy => by
  obtain ⟨p, hp, rfl⟩ := Option.map_eq_some_iff.1 (by rw [← List.getElem?_map]; exact hx : (l[i]?).map Prod.fst = some x)
  obtain ⟨q, hq, rfl⟩ := Option.map_eq_some_iff.1 (by rw [← List.getElem?_map]; exact hy : (l[i + 1]?).map Prod.fst = some y)
  exact h i p q hp hq
theorem allWr_take {l : List (Fl × FlR)} {k : Nat} {q : Fl × FlR} (h : l[k]? = some q) : allWr ((l.map Prod.fst).take (k + 1)) = allWr ((l.map Prod.fst).take k) ++ q.1.ws := by
  obtain ⟨hj, rfl⟩ := List.getElem?_eq_some_iff.1 h
  rw [List.take_succ_eq_append_getElem (by simpa using hj)]
  simp [allWr]
theorem wWr_app (l m : List Wr) : wWr (l ++ m) = wWr l ++ wWr m := by simp [wWr]
set_option maxRecDepth 100000 in
set_option maxHeartbeats 16000000 in
theorem specFls_any (w : World) (a : Option Addr) (cap : Nat) (l : List (Fl × FlR)) (hf : ∀ q ∈ l, FlFit q.1) (hl : l.length ≤ 1048576) (hi : FlsIn w a l) :
    Calls Tryz.prog 42 #[.slice a l.length cap] w fun e w' => e = .returned (.int .i64 (flsC (l.map Prod.fst))) ∧ Below w.heap.size w w' := by
  have HI : Hid (FlsIn w a l) := hi
  have HFT : Hid (∀ q ∈ l, FlFit q.1) := hf
  obtain ⟨i0, hi0, hz0, hz1, hz2⟩ := info_parts infoWr
  obtain ⟨Z, hZ⟩ : ∃ Z, Hid (flsC (l.map Prod.fst) = Z) := ⟨_, rfl⟩
  rw [hZ.out]
  unfold flsC at hZ
  rw [List.length_map] at hZ
  clear hi hf
  generalize hn : l.length = n at *
  have HN : Hid (l.length = n) := hn
  clear hn
  by_cases c0 : (24 : Int) < n
  · have HR : Hid (2 = Z) := by have z := hZ.out; rw [if_pos (by omega)] at z; exact z
    clear hZ
    go_enter Tryz.func42, Tryz.ntmps42
    go_wp2_with fail
    go_ret
    exact ⟨ret_int HR.out, Below.refl _ _⟩
  rw [if_neg (by omega)] at hZ
  have B1 : Hid (Below w.heap.size w (w.alloc (.cells #[] 91))) := (Below.refl _ _).alloc (Nat.le_refl _) _
  have O1 : Hid ((w.alloc (.cells #[] 91)).ownsRow w.heap.size 91 4 (.slice (some ⟨w.heap.size, 0, none⟩) 0 0) 0 []) := World.ownsRow_made w #[] 0 (Nat.le_refl _) (by unfold maxLen; omega) rfl
  go_enter Tryz.func42, Tryz.ntmps42
  go_wp2_with fail
  go_loopw [3, 4] (fun v i wr => ∃ k m : Nat, k ≤ n ∧ i = .int .i64 k ∧ firstC (l.map Prod.fst) = firstC ((l.map Prod.fst).drop k) ∧ (allWr ((l.map Prod.fst).take k)).length = m ∧ m ≤ 10 * k ∧ wr.ownsRow w.heap.size 91 4 v m (wWr (allWr ((l.map Prod.fst).take k))) ∧ Below w.heap.size w wr) (fun _ i _ => n - (intOf i).toNat)
  case atStart => exact ⟨0, 0, Nat.zero_le _, rfl, rfl, rfl, Nat.zero_le _, O1.out, B1.out⟩
  case round =>
    obtain ⟨k, m, hk, rfl, hfc, hm, hmk, hrow, hb⟩ := hrel
    have HFC : Hid (firstC (l.map Prod.fst) = firstC ((l.map Prod.fst).drop k)) := hfc
    have HM : Hid ((allWr ((l.map Prod.fst).take k)).length = m) := hm
    obtain ⟨va, vc, rfl, _⟩ := row_form hrow
    clear hfc hm O1 B1
    by_cases hlt : k < n
    · obtain ⟨q, hq⟩ : ∃ q, l[k]? = some q := ⟨l[k]'(by have := HN.out; omega), List.getElem?_eq_getElem _⟩
      rcases HI.out with e | ⟨b1, o1, er, hat⟩
      · rw [e] at hq; simp at hq
      have PC := (hat.keep hb).cells hq
      have PI := (hat.keep hb).in hq
      have ft := HFT.out q (List.mem_of_getElem? hq)
      rw [er]
      have g : (k : Int) < n := by omega
      have g0 : (0 : Int) ≤ k := by omega
      have HD : Hid (firstC (l.map Prod.fst) = if flC q.1 ≠ 0 then flC q.1 else firstC ((l.map Prod.fst).drop (k + 1))) := by show _ = _; rw [HFC.out, firstC_drop hq]
      have HTK : Hid (allWr ((l.map Prod.fst).take (k + 1)) = allWr ((l.map Prod.fst).take k) ++ q.1.ws) := allWr_take hq
      have H10 : Hid (flC q.1 = 0 → q.1.ws.length ≤ 10) := fun h => (flC_zero h).2.2.2.2.2.2.1
      have HB : Hid (Below w.heap.size w wr) := hb
      have HRW : Hid (∀ X, Below wr.heap.size wr X → X.ownsRow w.heap.size 91 4 (.slice va m vc) m (wWr (allWr ((l.map Prod.fst).take k)))) := fun X hX => row_below hrow hX
      have HC : Hid (Calls Tryz.prog 75 #[.agg #[.int .i64 q.1.id, .string q.1.key, .bool q.1.bk, .bool q.1.ot, .int .i64 q.1.du, .bool q.1.dm, .string q.1.m, .string q.1.h, .string q.1.p, .slice q.2.ha q.1.hs.length q.2.hc, .slice q.2.wa q.1.ws.length q.2.wc]] wr fun e w' => e = .returned (.int .i64 (flC q.1)) ∧ Below wr.heap.size wr w') := specFl_any wr q.1 q.2 ft PI
      have HP10 : Hid (∀ X, Below w.heap.size w X → X.cell? ⟨b1, o1 + k * 11 + 10, none⟩ = some (.slice q.2.wa q.1.ws.length q.2.wc) ∧ WrIn X q.2.wa q.1.ws) := fun X hX => ⟨((hat.keep hX).cells hq).2.2.2.2.2.2.2.2.2.2, ((hat.keep hX).in hq).k⟩
      have p0 := PC.1
      have p1 := PC.2.1
      have p2 := PC.2.2.1
      have p3 := PC.2.2.2.1
      have p4 := PC.2.2.2.2.1
      have p5 := PC.2.2.2.2.2.1
      have p6 := PC.2.2.2.2.2.2.1
      have p7 := PC.2.2.2.2.2.2.2.1
      have p8 := PC.2.2.2.2.2.2.2.2.1
      have p9 := PC.2.2.2.2.2.2.2.2.2.1
      have p10 := PC.2.2.2.2.2.2.2.2.2.2
      clear PC PI hq hat hb er ft HFC hrow
      generalize flC q.1 = fc at *
      obtain ⟨⟨id, key, bk, ot, du, dm, mt, ho, pa, hs, ws⟩, ⟨ha, hc, wa, wc⟩⟩ := q
      simp only at p0 p1 p2 p3 p4 p5 p6 p7 p8 p9 p10 HC HTK H10 HP10
      generalize hs.length = hl' at *
      go_wp2_with fail
      refine HC.out.mono ?_
      rintro e0 w3 ⟨rfl, hb3⟩
      have B3 : Hid (Below w.heap.size w w3) := HB.out.trans (hb3.mono HB.out.size)
      have R3 : Hid (w3.ownsRow w.heap.size 91 4 (.slice va m vc) m (wWr (allWr ((l.map Prod.fst).take k)))) := HRW.out w3 hb3
      clear hb3 HB HC HRW p0 p1 p2 p3 p4 p5 p6 p7 p8 p9 p10
      by_cases c3 : fc = 0
      rotate_left
      · have HR : Hid (fc = Z) := by have z := hZ.out; rw [HD.out, if_pos c3, if_pos c3] at z; exact z
        have c3' : (fc != 0) = true := by simpa using c3
        clear hZ HD c3
        go_wp2_with fail
        go_ret
        exact ⟨ret_int HR.out, B3.out⟩
      subst c3
      have HD2 : Hid (firstC (l.map Prod.fst) = firstC ((l.map Prod.fst).drop (k + 1))) := by have z := HD.out; rw [if_neg (by simp)] at z; exact z
      have h10 := H10.out rfl
      have q10 := (HP10.out w3 B3.out).1
      have HIN : Hid (ws.length = 0 ∨ ∃ ad, wa = some ad ∧ ∀ j u, (wWr ws)[j]? = some u → w3.cell? (ad.add j) = some u) := wWr_in (HP10.out w3 B3.out).2
      have HLN : Hid ((wWr ws).length = ws.length * 4) := wWr_len ws
      have HON : Hid (∀ u ∈ wWr ws, u.oneCell' = true) := wWr_one ws
      have HT2 : Hid ((allWr ((l.map Prod.fst).take (k + 1))).length = m + ws.length ∧ wWr (allWr ((l.map Prod.fst).take k)) ++ wWr ws = wWr (allWr ((l.map Prod.fst).take (k + 1)))) := by
        rw [HTK.out]
        exact ⟨by rw [List.length_append, HM.out], (wWr_app _ _).symm⟩
      clear HD H10 HP10 HTK HM
      generalize ws.length = wn at *
      go_wp2_with (at_builtin; refine wpList_plain rfl fun _ hK => wp_append_in _ (.tmp 27) (.tmp 32) 84 91 rfl i0 _ 4 32 Tryz.underlying84 hi0 hz0 hz1 hz2 rfl (by omega) w.heap.size _ m (wWr (allWr ((l.map Prod.fst).take k))) rfl R3.out wa wc wn (wWr ws) rfl HLN.out HIN.out HON.out (by unfold maxLen; omega) (by omega) B3.out.size (fun v' w' h1 h2 _ => hK _ _ ?_))
      have HF : Hid (w'.ownsRow w.heap.size 91 4 v' (m + wn) (wWr (allWr ((l.map Prod.fst).take (k + 1)))) ∧ Below w.heap.size w w') := by
        rw [HT2.out.2] at h1
        exact ⟨h1, B3.out.trans h2⟩
      have HL2 : Hid ((allWr ((l.map Prod.fst).take (k + 1))).length = m + wn) := HT2.out.1
      clear h1 h2 R3 B3 HIN HLN HON HT2 q10
      go_wp2_with fail
      go_roundw
      case rel => exact ⟨k + 1, m + wn, by omega, by go_num, HD2.out, HL2.out, by omega, HF.out.1, HF.out.2⟩
      case measure => simp [intOf]; omega
    · have h0 : firstC (l.map Prod.fst) = 0 := by
        rw [HFC.out, List.drop_of_length_le (by have := HN.out; simp; omega)]
        rfl
      rw [h0, if_neg (by simp)] at hZ
      have htk : (l.map Prod.fst).take k = l.map Prod.fst := List.take_of_length_le (by have := HN.out; simp; omega)
      have HML : Hid ((allWr (l.map Prod.fst)).length = m) := by have z := HM.out; rw [htk] at z; exact z
      rw [htk] at hrow
      have HX : Hid (∀ X, Below wr.heap.size wr X → Below w.heap.size w X ∧ WrIn X va (allWr (l.map Prod.fst))) := fun X hX => by
        have z : OwnWr X w.heap.size (.slice va m vc) (allWr (l.map Prod.fst)) := by
          show X.ownsRow w.heap.size 91 4 (.slice va m vc) (allWr (l.map Prod.fst)).length _
          rw [HML.out]
          exact row_below hrow hX
        obtain ⟨a2, c2, e2, _, z2⟩ := z.in
        simp only [Value.slice.injEq] at e2
        rw [e2.1]
        exact ⟨hb.trans (hX.mono hb.size), z2⟩
      clear HFC HM h0 htk hrow hb
      obtain ⟨wo, hwo⟩ : ∃ wo : World, wo = wr := ⟨_, rfl⟩
      subst hwo
      go_wp2_with fail
      go_loopw [6] (fun i wr => ∃ j : Nat, j ≤ n ∧ i = .int .i64 ((j : Int) + 1) ∧ (∀ (i : Nat) x y, i < j → l[i]? = some x → l[i + 1]? = some y → x.1.id < y.1.id) ∧ Below wo.heap.size wo wr) (fun i _ => n + 1 - (intOf i).toNat)
      case atStart => exact ⟨0, Nat.zero_le _, rfl, fun i x y h => absurd h (by omega), Below.refl _ _⟩
      case round =>
        obtain ⟨j, hj, rfl, hno, hb⟩ := hrel
        have HNO : Hid (∀ (i : Nat) x y, i < j → l[i]? = some x → l[i + 1]? = some y → x.1.id < y.1.id) := hno
        clear hno
        by_cases hlj : j + 1 < n
        · obtain ⟨x, hx⟩ : ∃ r, l[j]? = some r := ⟨l[j]'(by have := HN.out; omega), List.getElem?_eq_getElem _⟩
          obtain ⟨y, hy⟩ : ∃ r, l[j + 1]? = some r := ⟨l[j + 1]'(by have := HN.out; omega), List.getElem?_eq_getElem _⟩
          rcases HI.out with e | ⟨b', off', er, hat⟩
          · rw [e] at hx; simp at hx
          have bw := (HX.out wr hb).1
          have x0 := cell_regrown ((hat.keep bw).cells hx).1
          have y0 := cell_regrown ((hat.keep bw).cells hy).1
          rw [er]
          have g : (j : Int) + 1 < n := by omega
          have g1 : (0 : Int) ≤ (j : Int) + 1 := by omega
          have g2 : (0 : Int) ≤ j := by omega
          have g3 : (j : Int) < n := by omega
          have hw : IntKind.i64.wrap ((j : Int) + 1 - 1) = (j : Int) := by rw [IntKind.wrap_i64]; omega
          have hw' : IntKind.i64.wrap (j : Int) = (j : Int) := by rw [IntKind.wrap_i64]; omega
          have HXX : Hid (l[j]? = some x) := hx
          have HYY : Hid (l[j + 1]? = some y) := hy
          clear hx hy hat er bw
          have HID3 : Hid ((¬ x.1.id < y.1.id → riseF (l.map Prod.fst) = false) ∧ (x.1.id < y.1.id → ∀ (i : Nat) u v, i < j + 1 → l[i]? = some u → l[i + 1]? = some v → u.1.id < v.1.id)) := ⟨fun h => rise_no HXX.out HYY.out h, fun h i u v hi hu hv => by
            by_cases e : i = j
            · subst e
              rw [HXX.out] at hu
              rw [HYY.out] at hv
              obtain rfl := Option.some.inj hu
              obtain rfl := Option.some.inj hv
              exact h
            · exact HNO.out i u v (by omega) hu hv⟩
          clear HXX HYY HNO
          generalize x.1.id = xi at *
          generalize y.1.id = yi at *
          by_cases c : yi ≤ xi
          · have HR : Hid (1 = Z) := by have z := hZ.out; rw [if_pos (HID3.out.1 (by omega))] at z; exact z
            have c' : decide (yi ≤ xi) = true := by simpa using c
            clear HID3 hZ
            go_wp2_with fail
            refine wp_region_quiet_below (by kernel_rfl) (by kernel_rfl) ?_
            repeat (go_big_quiet_step (fail))
            refine wpQuiet_nil ?_
            intro w2 hw2
            have hbb : Below wo.heap.size wo w2 := by
              obtain ⟨⟨d, os⟩, rfl⟩ := hw2
              exact hb.trans ((below_regrown wr d os).mono hb.size)
            clear x0 y0 hw2 hb
            have BB := (HX.out w2 hbb).1
            go_wp2_with fail
            go_ret
            exact ⟨ret_int HR.out, BB⟩
          · have HF : Hid (∀ (i : Nat) u v, i < j + 1 → l[i]? = some u → l[i + 1]? = some v → u.1.id < v.1.id) := HID3.out.2 (by omega)
            have c' : decide (yi ≤ xi) = false := by simpa using c
            clear HID3
            go_wp2_with fail
            refine wp_region_quiet_below (by kernel_rfl) (by kernel_rfl) ?_
            repeat (go_big_quiet_step (fail))
            refine wpQuiet_nil ?_
            intro w2 hw2
            have hbb : Below wo.heap.size wo w2 := by
              obtain ⟨⟨d, os⟩, rfl⟩ := hw2
              exact hb.trans ((below_regrown wr d os).mono hb.size)
            clear x0 y0 hw2 hb
            go_wp2_with fail
            go_roundw
            case rel => exact ⟨j + 1, by omega, by go_num, HF.out, hbb⟩
            case measure => simp [intOf]; omega
        · have hri : riseF (l.map Prod.fst) = true := riseF_yes fun i x y hx hy => HNO.out i x y (by have := (List.getElem?_eq_some_iff.1 hy).1; have := HN.out; omega) hx hy
          rw [hri, if_neg (by decide)] at hZ
          have g : ¬ (j : Int) + 1 < n := by omega
          have HB2 : Hid (Below wo.heap.size wo wr) := hb
          clear HNO hri hb
          obtain ⟨wp, hwp⟩ : ∃ wp : World, wp = wr := ⟨_, rfl⟩
          subst hwp
          go_wp2_with fail
          go_loopw [7] (fun i wr => ∃ k : Nat, k ≤ n ∧ i = .int .i64 k ∧ (∀ (i j : Nat) x y, i < k → j < i → l[i]? = some x → l[j]? = some y → x.1.key ≠ y.1.key) ∧ Below wo.heap.size wo wr) (fun i _ => n - (intOf i).toNat)
          case atStart => exact ⟨0, Nat.zero_le _, rfl, fun i j x y h => absurd h (by omega), HB2.out⟩
          case round =>
            obtain ⟨k2, hk2, rfl, hno, hb⟩ := hrel
            have HNO : Hid (∀ (i j : Nat) x y, i < k2 → j < i → l[i]? = some x → l[j]? = some y → x.1.key ≠ y.1.key) := hno
            have HB : Hid (Below wo.heap.size wo wr) := hb
            clear hno hb HB2
            by_cases hlt2 : k2 < n
            · obtain ⟨x, hx⟩ : ∃ r, l[k2]? = some r := ⟨l[k2]'(by have := HN.out; omega), List.getElem?_eq_getElem _⟩
              have HXX : Hid (l[k2]? = some x) := hx
              clear hx
              have gk : (k2 : Int) < n := by omega
              have gk0 : (0 : Int) ≤ k2 := by omega
              go_wp2_with fail
              obtain ⟨wq, hwq⟩ : ∃ wq : World, wq = wr := ⟨_, rfl⟩
              subst hwq
              go_loopw [8] (fun i wr => ∃ m2 : Nat, m2 ≤ k2 ∧ i = .int .i64 m2 ∧ (∀ (j : Nat) y, j < m2 → l[j]? = some y → x.1.key ≠ y.1.key) ∧ Below wo.heap.size wo wr) (fun i _ => k2 - (intOf i).toNat)
              case atStart => exact ⟨0, Nat.zero_le _, rfl, fun j y h => absurd h (by omega), HB.out⟩
              case round =>
                obtain ⟨m2, hm2, rfl, hnj, hb⟩ := hrel
                have HNJ : Hid (∀ (j : Nat) y, j < m2 → l[j]? = some y → x.1.key ≠ y.1.key) := hnj
                clear hnj HB
                by_cases hlm : m2 < k2
                · obtain ⟨y, hy⟩ : ∃ r, l[m2]? = some r := ⟨l[m2]'(by have := HN.out; omega), List.getElem?_eq_getElem _⟩
                  have hx := HXX.out
                  rcases HI.out with e | ⟨b', off', er, hat⟩
                  · rw [e] at hy; simp at hy
                  have bw := (HX.out wr hb).1
                  have x0 := cell_regrown ((hat.keep bw).cells hx).2.1
                  have y0 := cell_regrown ((hat.keep bw).cells hy).2.1
                  rw [er]
                  have gm : (m2 : Int) < n := by omega
                  have gmk : (m2 : Int) < k2 := by omega
                  have gm0 : (0 : Int) ≤ m2 := by omega
                  have HYY : Hid (l[m2]? = some y) := hy
                  have HBAD : Hid (x.1.key.toList = y.1.key.toList → keysR (l.map Prod.fst) = false) := fun h => keysR_no hlm HXX.out HYY.out (bt_inj h)
                  have HSUC : Hid (x.1.key.toList ≠ y.1.key.toList → ∀ (j : Nat) z, j < m2 + 1 → l[j]? = some z → x.1.key ≠ z.1.key) := fun h j z hj hz => by
                    by_cases e : j = m2
                    · subst e
                      rw [HYY.out] at hz
                      obtain rfl := Option.some.inj hz
                      exact fun e2 => h (by rw [e2])
                    · exact HNJ.out j z (by omega) hz
                  clear hx hy hat er bw HYY
                  by_cases he : x.1.key.toList = y.1.key.toList
                  · have HR : Hid (6 = Z) := by have z := hZ.out; rw [HBAD.out he] at z; exact z
                    have he2 : (x.1.key.toList == y.1.key.toList) = true := by simpa using he
                    clear HBAD HSUC he hZ HNJ
                    generalize x.1.key = kx at *
                    generalize y.1.key = ky at *
                    go_wp2_with fail
                    refine wp_region_quiet_below (by kernel_rfl) (by kernel_rfl) ?_
                    repeat (go_big_quiet_step (fail))
                    refine wpQuiet_nil ?_
                    intro w2 hw2
                    have hbb : Below wo.heap.size wo w2 := by
                      obtain ⟨⟨d, os⟩, rfl⟩ := hw2
                      exact hb.trans ((below_regrown wr d os).mono hb.size)
                    clear x0 y0 hw2 hb
                    have BB := (HX.out w2 hbb).1
                    go_wp2_with fail
                    go_ret
                    exact ⟨ret_int HR.out, BB⟩
                  · have HS2 := HSUC.out he
                    have HS3 : Hid (∀ (j : Nat) z, j < m2 + 1 → l[j]? = some z → x.1.key ≠ z.1.key) := HS2
                    have he2 : (x.1.key.toList == y.1.key.toList) = false := by simpa using he
                    clear HBAD HSUC he HNJ HS2
                    go_wp2_with fail
                    refine wp_region_quiet_below (by kernel_rfl) (by kernel_rfl) ?_
                    repeat (go_big_quiet_step (fail))
                    refine wpQuiet_nil ?_
                    intro w2 hw2
                    have hbb : Below wo.heap.size wo w2 := by
                      obtain ⟨⟨d, os⟩, rfl⟩ := hw2
                      exact hb.trans ((below_regrown wr d os).mono hb.size)
                    clear x0 y0 hw2 hb
                    go_wp2_with fail
                    go_roundw
                    case rel => exact ⟨m2 + 1, by omega, by go_num, HS3.out, hbb⟩
                    case measure => simp [intOf]; omega
                · have HF : Hid (∀ (i j : Nat) x y, i < k2 + 1 → j < i → l[i]? = some x → l[j]? = some y → x.1.key ≠ y.1.key) := fun i j u v hi hj hu hv => by
                    by_cases e : i = k2
                    · subst e
                      rw [HXX.out] at hu
                      obtain rfl := Option.some.inj hu
                      exact HNJ.out j v (by omega) hv
                    · exact HNO.out i j u v (by omega) hj hu hv
                  clear HNJ
                  go_wp2_with fail
                  go_roundw
                  case rel => exact ⟨k2 + 1, by omega, by go_num, HF.out, hb⟩
                  case measure => simp [intOf]; omega
            · have hke : keysR (l.map Prod.fst) = true := keysR_yes fun i j x y hj hx hy => HNO.out i j x y (by have := (List.getElem?_eq_some_iff.1 hx).1; have := HN.out; omega) hj hx hy
              rw [hke, Bool.true_and] at hZ
              have HXX := HX.out wr HB.out
              have HTW : Hid (Calls Tryz.prog 106 #[.slice va m vc] wr fun e w' => e = .returned (.bool (!nodR (allWr (l.map Prod.fst)))) ∧ Below wr.heap.size wr w') := by
                have z := l12Twice_any wr va vc (allWr (l.map Prod.fst)) (by rw [HML.out]; omega) HXX.2
                rw [HML.out] at z
                exact z
              have HBW : Hid (Below w.heap.size w wr) := HXX.1
              clear HNO hke HXX
              go_wp2_with fail
              refine HTW.out.mono ?_
              rintro e0 w9 ⟨rfl, hb9⟩
              have B9 : Hid (Below w.heap.size w w9) := HBW.out.trans (hb9.mono HBW.out.size)
              clear hb9 HTW HBW
              generalize nodR (allWr (l.map Prod.fst)) = nd at *
              cases nd
              · have HR : Hid (6 = Z) := hZ.out
                clear hZ
                go_wp2_with fail
                go_ret
                exact ⟨ret_int HR.out, B9.out⟩
              · have HR : Hid (0 = Z) := hZ.out
                clear hZ
                go_wp2_with fail
                go_ret
                exact ⟨ret_int HR.out, B9.out⟩
end Go.Proofs.YtacninhhkbglaaaGreatDoor
/-
  A flight that is found, by its key and by its number.
-/
namespace Go.Proofs.YtacninhhkbglaaaGreatDoor
open Go.ChangeShapes Go.WideShapes Go.ChangeAt Go.RowKit Go.Sort
def atI : Option Nat → Int
  | some i => (i : Int)
  | none => -1
theorem idxS_drop {y : Sg} {l : List (Fl × FlR)} {k : Nat} {q : Fl × FlR} (h : l[k]? = some q) : idxS y k ((l.map Prod.fst).drop k) = if hasS (signsF q.1) y = true then some k else idxS y (k + 1) ((l.map Prod.fst).drop (k + 1)) := by
  obtain ⟨hj, rfl⟩ := List.getElem?_eq_some_iff.1 h
  rw [List.drop_eq_getElem_cons (i := k) (by simpa using hj), idxS]
  simp
theorem box2 (w : World) : ∀ X, Below (w.alloc (.cells #[.int .i64 0, .int .i64 0] 68)).heap.size (w.alloc (.cells #[.int .i64 0, .int .i64 0] 68)) X → Below w.heap.size w X ∧ X.cell? ⟨w.heap.size, 0, none⟩ = some (.int .i64 0) ∧ X.cell? ⟨w.heap.size, 1, none⟩ = some (.int .i64 0) ∧ X.frozen? ⟨w.heap.size, 0, none⟩ = false ∧ X.frozen? ⟨w.heap.size, 1, none⟩ = false := fun X hX => by
  have al : Below w.heap.size w (w.alloc (.cells #[.int .i64 0, .int .i64 0] 68)) := (Below.refl _ _).alloc (Nat.le_refl _) _
  have hs : w.heap.size < (w.alloc (.cells #[.int .i64 0, .int .i64 0] 68)).heap.size := by simp
  refine ⟨al.trans (hX.mono al.size), ?_, ?_, ?_, ?_⟩
  · rw [hX.cell (p := ⟨w.heap.size, 0, none⟩) hs]; simp
  · rw [hX.cell (p := ⟨w.heap.size, 1, none⟩) hs]; simp
  · rw [hX.frozen (p := ⟨w.heap.size, 0, none⟩) hs]; simp
  · rw [hX.frozen (p := ⟨w.heap.size, 1, none⟩) hs]; simp
def placeA (fc at' : Int) : Int × Int := if fc = 0 then (if at' < 0 then (4, 0) else (0, at')) else (fc, 0)
theorem placeA_of (l : List Fl) (y : Sg) : placeA (flsC l) (atI (idxS y 0 l)) = placeR l y := by
  unfold placeA placeR
  split
  · cases h : idxS y 0 l with
    | none => rfl
    | some i => rw [if_neg (by show ¬ ((i : Int) < 0); omega)]; rfl
  · rfl
end Go.Proofs.YtacninhhkbglaaaGreatDoor
/-
  Requests that are copied, by the program.
-/
namespace Go.Proofs.YtacninhhkbglaaaGreatDoor
open Go.ChangeShapes Go.WideShapes Go.ChangeAt Go.RowKit Go.Sort
theorem row_neF {w : World} {base : Nat} {e : TypeId} {size : Nat} {v : Value} {n : Nat} {xs : List Value} (h : w.ownsRow base e size v n xs) {A i : Nat} (u : Value) (hA : ∀ q, v.ownBlock = some q → q ≠ A) : (w.setCell ⟨A, i, none⟩ u).ownsRow base e size v n xs := by
  obtain ⟨h1, h2⟩ := h
  refine ⟨h1, ?_⟩
  rcases h2 with h2 | ⟨g, c, cur, e', hg, hh, hrest⟩
  · exact .inl h2
  · exact .inr ⟨g, c, cur, e', hg, by rw [heap_setCell_other w ⟨A, i, none⟩ g u (by have := hA g (by rw [e']; rfl); exact this)]; exact hh, hrest⟩
set_option maxHeartbeats 2000000 in
theorem lineOf_anewF (n z : ByteArray) (w : World) (hn : n.size ≤ 1048576) (hz : z.size ≤ 1048576) :
    Calls Tryz.prog 269 #[.string n, .string z] w fun e w' => e = .returned (.agg #[.string n, .string z]) ∧ Below w.heap.size w w' := by
  have C1 : Hid (∀ X, Calls Tryz.prog 142 #[.string n] X fun e w' => e = .returned (.string n) ∧ Below X.heap.size X w') := fun X => clone_text n X hn
  have C2 : Hid (∀ X, Calls Tryz.prog 142 #[.string z] X fun e w' => e = .returned (.string z) ∧ Below X.heap.size X w') := fun X => clone_text z X hz
  obtain ⟨W, hW⟩ : ∃ W, W = w.alloc (.cells #[.string ⟨#[]⟩, .string ⟨#[]⟩] 287) := ⟨_, rfl⟩
  have HW : Hid (W = w.alloc (.cells #[.string ⟨#[]⟩, .string ⟨#[]⟩] 287)) := hW
  have K0 : Hid (Below w.heap.size w W ∧ W.cell? ⟨w.heap.size, 0, none⟩ = some (.string ⟨#[]⟩) ∧ W.cell? ⟨w.heap.size, 1, none⟩ = some (.string ⟨#[]⟩) ∧ (∀ o, W.frozen? ⟨w.heap.size, o, none⟩ = false) ∧ w.heap.size < W.heap.size) := by
    rw [hW]; exact ⟨(Below.refl _ _).alloc (Nat.le_refl _) _, by simp, by simp, fun o => by simp, by simp⟩
  clear hW
  go_enter Tryz.func269, Tryz.ntmps269
  go_wp2_with fail
  rw [← HW.out]
  refine (C1.out _).mono ?_
  rintro e w1 ⟨rfl, hb1⟩
  go_wp2_with fail
  refine (C2.out _).mono ?_
  rintro e w2 ⟨rfl, hb2⟩
  have b2 : Below W.heap.size W w2 := hb1.trans (hb2.mono hb1.size)
  have r0 : w2.cell? ⟨w.heap.size, 0, none⟩ = some (.string ⟨#[]⟩) := by rw [b2.cell (p := ⟨w.heap.size, 0, none⟩) K0.out.2.2.2.2]; exact K0.out.2.1
  have r1 : w2.cell? ⟨w.heap.size, 1, none⟩ = some (.string ⟨#[]⟩) := by rw [b2.cell (p := ⟨w.heap.size, 1, none⟩) K0.out.2.2.2.2]; exact K0.out.2.2.1
  have f0 : w2.frozen? ⟨w.heap.size, 0, none⟩ = false := by rw [b2.frozen (p := ⟨w.heap.size, 0, none⟩) K0.out.2.2.2.2]; exact K0.out.2.2.2.1 0
  have f1 : w2.frozen? ⟨w.heap.size, 1, none⟩ = false := by rw [b2.frozen (p := ⟨w.heap.size, 1, none⟩) K0.out.2.2.2.2]; exact K0.out.2.2.2.1 1
  have HB : Hid (Below w.heap.size w w2) := K0.out.1.trans (b2.mono K0.out.1.size)
  clear hb1 hb2 b2 K0 HW C1 C2
  go_wp2_with fail
  exact bodyPost_ret (v := .agg #[.string n, .string z]) (by simp [results, Tryz.results269, go_sem, r0, r1]) rfl ⟨rfl, (HB.out.setCell (Nat.le_refl _) _).setCell (Nat.le_refl _) _⟩
set_option maxRecDepth 100000 in
set_option maxHeartbeats 4000000 in
theorem linesAnewF_any (w : World) (a : Option Addr) (cap : Nat) (l : List Hdr) (hl : l.length ≤ 1048576) (hs : ∀ r ∈ l, r.name.size ≤ 1048576 ∧ r.value.size ≤ 1048576) (hi : HdsIn w a l) :
    Calls Tryz.prog 253 #[.slice a l.length cap] w fun e w' => (∃ v, e = .returned v ∧ RowH w' w.heap.size v l) ∧ Below w.heap.size w w' := by
  have HI : Hid (HdsIn w a l) := hi
  have HSM : Hid (∀ r ∈ l, r.name.size ≤ 1048576 ∧ r.value.size ≤ 1048576) := hs
  obtain ⟨i0, hi0, hz0, hz1, hz2⟩ := info_parts cHeadI
  clear hi hs
  generalize hn : l.length = n at *
  have HN : Hid (l.length = n) := hn
  clear hn
  go_enter Tryz.func253, Tryz.ntmps253
  go_wp2_with fail
  go_loopw [3, 8] (fun v i wr => ∃ k : Nat, k ≤ n ∧ i = .int .i64 k ∧ wr.ownsRow w.heap.size 287 2 v k (hdrsW (l.take k)) ∧ Below w.heap.size w wr) (fun _ i _ => n - (intOf i).toNat)
  case atStart => exact ⟨0, Nat.zero_le _, rfl, World.ownsRow_nil _ _ _ _, Below.refl _ _⟩
  case round =>
    obtain ⟨k, hk, rfl, hrow, hb⟩ := hrel
    obtain ⟨va, vc, rfl, _⟩ := row_form hrow
    by_cases hlt : k < n
    · obtain ⟨r, hr⟩ : ∃ r, l[k]? = some r := ⟨l[k]'(by have := HN.out; omega), List.getElem?_eq_getElem _⟩
      rcases HI.out with e | ⟨b', off', er, hat⟩
      · rw [e] at hr; simp at hr
      obtain ⟨p0, p1⟩ := (hat.keep hb) k r hr
      have sm := HSM.out r (List.mem_of_getElem? hr)
      rw [er]
      have g : (k : Int) < n := by omega
      have g0 : (0 : Int) ≤ k := by omega
      obtain ⟨W2, hW2⟩ : ∃ W2, W2 = wr.alloc (.cells #[.string r.name, .string r.value] 287) := ⟨_, rfl⟩
      have HW2 : Hid (W2 = wr.alloc (.cells #[.string r.name, .string r.value] 287)) := hW2
      have b2 : Below wr.heap.size wr W2 := by rw [hW2]; exact (Below.refl _ _).alloc (Nat.le_refl _) _
      have R2 : Hid (W2.ownsRow w.heap.size 287 2 (.slice va k vc) k (hdrsW (l.take k)) ∧ Below w.heap.size w W2) := ⟨row_below hrow b2, hb.trans (b2.mono hb.size)⟩
      have HT : Hid (hdrsW (l.take k) ++ [.string r.name, .string r.value] = hdrsW (l.take (k + 1))) := by
        show _ = _
        obtain ⟨hk2, rfl⟩ := List.getElem?_eq_some_iff.1 hr
        rw [List.take_succ_eq_append_getElem hk2]
        unfold hdrsW
        rw [List.flatMap_append, List.flatMap_cons, List.flatMap_nil, List.append_nil]
        rfl
      have CL : Hid (∀ X, Calls Tryz.prog 269 #[.string r.name, .string r.value] X fun e w' => e = .returned (.agg #[.string r.name, .string r.value]) ∧ Below X.heap.size X w') := fun X => lineOf_anewF _ _ X sm.1 sm.2
      clear hrow hat hr sm hW2 b2 hb
      go_wp2_with fail
      rw [← HW2.out]
      clear HW2 p0 p1
      refine (CL.out _).mono ?_
      rintro e0 wa ⟨rfl, hba⟩
      have N3 : Hid (1 = 0 ∨ ∃ ad, some (⟨wa.heap.size, 0, none⟩ : Addr) = some ad ∧ ∀ j u, ([Value.string r.name, Value.string r.value])[j]? = some u → (wa.alloc (.cells #[.string r.name, .string r.value] 287)).cell? (ad.add j) = some u) := by
        refine .inr ⟨_, rfl, fun j u hj => ?_⟩
        rw [cadd]
        match j, hj with
        | 0, hj => simp at hj; subst hj; simp
        | 1, hj => simp at hj; subst hj; simp
      have b3 : Below W2.heap.size W2 (wa.alloc (.cells #[.string r.name, .string r.value] 287)) := hba.alloc hba.size _
      have RR3 : Hid ((wa.alloc (.cells #[.string r.name, .string r.value] 287)).ownsRow w.heap.size 287 2 (.slice va k vc) k (hdrsW (l.take k)) ∧ Below w.heap.size w (wa.alloc (.cells #[.string r.name, .string r.value] 287))) := ⟨row_below R2.out.1 b3, R2.out.2.trans (b3.mono R2.out.2.size)⟩
      clear b3 hba R2
      go_wp2_with (at_builtin; refine wpList_plain rfl fun _ hK => wp_append_in _ (.tmp 12) (.tmp 18) 81 287 rfl i0 _ 2 32 Tryz.underlying81 hi0 hz0 hz1 hz2 rfl (by omega) w.heap.size _ k (hdrsW (l.take k)) rfl RR3.out.1 (some ⟨wa.heap.size, 0, none⟩) 1 1 [.string r.name, .string r.value] rfl rfl N3.out (by simp [Value.oneCell']) (by unfold maxLen; omega) (by omega) RR3.out.2.size (fun v' w' h1 h2 _ => hK _ _ ?_))
      have HF : Hid (w'.ownsRow w.heap.size 287 2 v' (k + 1) (hdrsW (l.take (k + 1))) ∧ Below w.heap.size w w') := by
        rw [HT.out] at h1
        exact ⟨h1, RR3.out.2.trans h2⟩
      clear h1 h2 RR3 N3
      go_wp2_with fail
      go_roundw
      case rel => exact ⟨k + 1, by omega, by go_num, HF.out.1, HF.out.2⟩
      case measure => simp [intOf]; omega
    · have HF : Hid (RowH wr w.heap.size (.slice va k vc) l) := by
        have e : l.take k = l := List.take_of_length_le (by have := HN.out; omega)
        have := hrow
        rw [e] at this
        have hkn : k = l.length := by have := HN.out; omega
        subst hkn
        exact this
      clear hrow
      go_wp2_with fail
      go_ret
      exact ⟨⟨_, rfl, HF.out⟩, hb⟩
theorem off4 {X : World} {b c o : Nat} (x0 x1 x2 x3 : Value) (h : b ≠ c) : ((((X.setCell ⟨b, 0, none⟩ x0).setCell ⟨b, 1, none⟩ x1).setCell ⟨b, 2, none⟩ x2).setCell ⟨b, 3, none⟩ x3).cell? ⟨c, o, none⟩ = X.cell? ⟨c, o, none⟩ := by
  have ne : ∀ i : Nat, (⟨b, i, none⟩ : Addr) ≠ ⟨c, o, none⟩ := fun i e => h (congrArg Addr.block e)
  rw [World.cell?_setCell_other _ _ _ _ (ne _), World.cell?_setCell_other _ _ _ _ (ne _), World.cell?_setCell_other _ _ _ _ (ne _), World.cell?_setCell_other _ _ _ _ (ne _)]
set_option maxRecDepth 100000 in
set_option maxHeartbeats 8000000 in
theorem reqAnew_any (w : World) (m h p : ByteArray) (ha : Option Addr) (hc : Nat) (hs : List Hdr) (hm : m.size ≤ 1048576) (hh : h.size ≤ 1048576) (hp : p.size ≤ 1048576) (hl : hs.length ≤ 1048576) (hsm : ∀ r ∈ hs, r.name.size ≤ 1048576 ∧ r.value.size ≤ 1048576) (hi : HdsIn w ha hs) :
    Calls Tryz.prog 218 #[.agg #[.string m, .string h, .string p, .slice ha hs.length hc]] w fun e w' => (∃ va vc, e = .returned (.agg #[.string m, .string h, .string p, .slice va hs.length vc]) ∧ RowH w' w.heap.size (.slice va hs.length vc) hs) ∧ Below w.heap.size w w' := by
  obtain ⟨W, hW⟩ : ∃ W, W = (w.alloc (.cells #[.string m, .string h, .string p, .slice ha hs.length hc] 83)).alloc (.cells #[.string ⟨#[]⟩, .string ⟨#[]⟩, .string ⟨#[]⟩, .slice none 0 0] 83) := ⟨_, rfl⟩
  have HW : Hid (W = (w.alloc (.cells #[.string m, .string h, .string p, .slice ha hs.length hc] 83)).alloc (.cells #[.string ⟨#[]⟩, .string ⟨#[]⟩, .string ⟨#[]⟩, .slice none 0 0] 83)) := hW
  have K0 : Hid (Below w.heap.size w W ∧ Four W w.heap.size (.string m) (.string h) (.string p) (.slice ha hs.length hc) ∧ Four W (w.heap.size + 1) (.string ⟨#[]⟩) (.string ⟨#[]⟩) (.string ⟨#[]⟩) (.slice none 0 0)) := by
    rw [hW]
    refine ⟨((Below.refl _ _).alloc (Nat.le_refl _) _).alloc (by simp) _, (Four.new w _ _ _ _ _).keep ((Below.refl _ _).alloc (Nat.le_refl _) _), ?_⟩
    have := Four.new (w.alloc (.cells #[.string m, .string h, .string p, .slice ha hs.length hc] 83)) (.string ⟨#[]⟩) (.string ⟨#[]⟩) (.string ⟨#[]⟩) (.slice none 0 0) 83
    simpa using this
  have CK : Hid (∀ (t : ByteArray) X, t.size ≤ 1048576 → Calls Tryz.prog 142 #[.string t] X fun e w' => e = .returned (.string t) ∧ Below X.heap.size X w') := fun t X ht => clone_text t X ht
  have CH : Hid (∀ X, Below w.heap.size w X → Calls Tryz.prog 253 #[.slice ha hs.length hc] X fun e w' => (∃ va vc, e = .returned (.slice va hs.length vc) ∧ RowH w' X.heap.size (.slice va hs.length vc) hs) ∧ Below X.heap.size X w') := fun X hX => (linesAnewF_any X _ _ _ hl hsm (hi.keep hX)).mono fun e w' ⟨⟨v, q1, q2⟩, q3⟩ => by
    obtain ⟨va, vc, rfl, _⟩ := row_form q2
    exact ⟨⟨va, vc, q1, q2⟩, q3⟩
  clear hW hi hsm hl
  generalize hs.length = n at *
  have HKS : Hid (∀ X, Below W.heap.size W X → X.cell? ⟨w.heap.size, 0, none⟩ = some (.string m) ∧ X.cell? ⟨w.heap.size, 1, none⟩ = some (.string h) ∧ X.cell? ⟨w.heap.size, 2, none⟩ = some (.string p) ∧ X.cell? ⟨w.heap.size, 3, none⟩ = some (.slice ha n hc)) := fun X hX => by
    obtain ⟨c0, c1, c2, c3, _, _⟩ := K0.out.2.1.keep hX
    exact ⟨c0, c1, c2, c3⟩
  have BZ : Hid (Below W.heap.size W W.drew) := (Below.refl _ _).drew
  go_enter Tryz.func218, Tryz.ntmps218
  go_wp2_with fail
  rw [← HW.out]
  clear HW
  go_region_held3 (fun X => X.cell? ⟨w.heap.size, 0, none⟩ = some (.string m) ∧ X.cell? ⟨w.heap.size, 1, none⟩ = some (.string h) ∧ X.cell? ⟨w.heap.size, 2, none⟩ = some (.string p) ∧ X.cell? ⟨w.heap.size, 3, none⟩ = some (.slice ha n hc))
    (first | (with_reducible exact SF.out) | ((with_reducible refine HKS.out _ ?_); (with_reducible exact BD.out)) | ((with_reducible refine HKS.out _ ?_); (with_reducible exact BC.out)) | ((with_reducible refine HKS.out _ ?_); (with_reducible exact BB.out)) | ((with_reducible refine HKS.out _ ?_); (with_reducible exact BA.out)) | ((with_reducible refine HKS.out _ ?_); (with_reducible exact BZ.out)))
    (first
    | (go_at_call 142; (with_reducible refine (CK.out p u2 hp).mono ?_); rintro e0 u3 ⟨rfl, hb⟩; have BC : Hid (Below W.heap.size W u3) := BB.out.trans (hb.mono BB.out.size); clear hb)
    | (go_at_call 142; (with_reducible refine (CK.out h u1 hh).mono ?_); rintro e0 u2 ⟨rfl, hb⟩; have BB : Hid (Below W.heap.size W u2) := BA.out.trans (hb.mono BA.out.size); clear hb)
    | (go_at_call 142; (with_reducible refine (CK.out m _ hm).mono ?_); rintro e0 u1 ⟨rfl, hb⟩; have BA : Hid (Below W.heap.size W u1) := BZ.out.trans (hb.mono BZ.out.size); clear hb)
    | (go_at_call 253; (with_reducible refine (CH.out u3 (K0.out.1.trans (BC.out.mono K0.out.1.size))).mono ?_); rintro e0 u4 ⟨⟨va, vc, rfl, hrow⟩, hb⟩; have BD : Hid (Below W.heap.size W u4) := BC.out.trans (hb.mono BC.out.size); have HR : Hid (RowH u4 u3.heap.size (.slice va n vc) hs ∧ W.heap.size ≤ u3.heap.size) := ⟨hrow, BC.out.size⟩; have k4 := K0.out.2.2.keep BD.out; obtain ⟨z0, z1, z2, z3, zf, zl⟩ := k4; have zf0 := zf 0; have zf1 := zf 1; have zf2 := zf 2; have zf3 := zf 3; have SF : Hid (((((u4.setCell ⟨w.heap.size + 1, 0, none⟩ (.string m)).setCell ⟨w.heap.size + 1, 1, none⟩ (.string h)).setCell ⟨w.heap.size + 1, 2, none⟩ (.string p)).setCell ⟨w.heap.size + 1, 3, none⟩ (.slice va n vc)).cell? ⟨w.heap.size, 0, none⟩ = some (.string m) ∧ ((((u4.setCell ⟨w.heap.size + 1, 0, none⟩ (.string m)).setCell ⟨w.heap.size + 1, 1, none⟩ (.string h)).setCell ⟨w.heap.size + 1, 2, none⟩ (.string p)).setCell ⟨w.heap.size + 1, 3, none⟩ (.slice va n vc)).cell? ⟨w.heap.size, 1, none⟩ = some (.string h) ∧ ((((u4.setCell ⟨w.heap.size + 1, 0, none⟩ (.string m)).setCell ⟨w.heap.size + 1, 1, none⟩ (.string h)).setCell ⟨w.heap.size + 1, 2, none⟩ (.string p)).setCell ⟨w.heap.size + 1, 3, none⟩ (.slice va n vc)).cell? ⟨w.heap.size, 2, none⟩ = some (.string p) ∧ ((((u4.setCell ⟨w.heap.size + 1, 0, none⟩ (.string m)).setCell ⟨w.heap.size + 1, 1, none⟩ (.string h)).setCell ⟨w.heap.size + 1, 2, none⟩ (.string p)).setCell ⟨w.heap.size + 1, 3, none⟩ (.slice va n vc)).cell? ⟨w.heap.size, 3, none⟩ = some (.slice ha n hc)) := (by have q := HKS.out u4 BD.out; exact ⟨(off4 _ _ _ _ (by omega)).trans q.1, (off4 _ _ _ _ (by omega)).trans q.2.1, (off4 _ _ _ _ (by omega)).trans q.2.2.1, (off4 _ _ _ _ (by omega)).trans q.2.2.2⟩); clear hb hrow zf zl))
  have HF : Hid (RowH ((((u4.setCell ⟨w.heap.size + 1, 0, none⟩ (.string m)).setCell ⟨w.heap.size + 1, 1, none⟩ (.string h)).setCell ⟨w.heap.size + 1, 2, none⟩ (.string p)).setCell ⟨w.heap.size + 1, 3, none⟩ (.slice va n vc)) w.heap.size (.slice va n vc) hs ∧ Below w.heap.size w ((((u4.setCell ⟨w.heap.size + 1, 0, none⟩ (.string m)).setCell ⟨w.heap.size + 1, 1, none⟩ (.string h)).setCell ⟨w.heap.size + 1, 2, none⟩ (.string p)).setCell ⟨w.heap.size + 1, 3, none⟩ (.slice va n vc))) := by
    have hx := HR.out
    have hw1 : w.heap.size + 1 < W.heap.size := K0.out.2.2.lt
    have b4 := K0.out.1.trans (BD.out.mono K0.out.1.size)
    have hne : ∀ q, Value.ownBlock (.slice va n vc) = some q → q ≠ w.heap.size + 1 := fun q hq => by have := (World.ownsRow.lt hx.1 q hq).1; omega
    exact ⟨row_lower (row_neF (row_neF (row_neF (row_neF hx.1 _ hne) _ hne) _ hne) _ hne) (by omega), (((b4.setCell (by simp) _).setCell (by simp) _).setCell (by simp) _).setCell (by simp) _⟩
  go_wp2_with fail
  exact bodyPost_ret (v := .agg #[.string m, .string h, .string p, .slice va n vc]) (by simp [results, Tryz.results218, go_sem, z0, z1, z2, z3]) rfl ⟨⟨va, vc, rfl, HF.out.1⟩, HF.out.2⟩
end Go.Proofs.YtacninhhkbglaaaGreatDoor
/-
  Waiters, and what is asked for, copied by the program.
-/
namespace Go.Proofs.YtacninhhkbglaaaGreatDoor
open Go.ChangeShapes Go.WideShapes Go.ChangeAt Go.RowKit Go.Sort
set_option maxRecDepth 100000 in
set_option maxHeartbeats 4000000 in
theorem cloneWr_any (w : World) (a : Option Addr) (cap : Nat) (l : List Wr) (hl : l.length ≤ 1048576) (hi : WrIn w a l) :
    Calls Tryz.prog 170 #[.slice a l.length cap] w fun e w' => (∃ va vc, e = .returned (.slice va l.length vc) ∧ OwnWr w' w.heap.size (.slice va l.length vc) l) ∧ Below w.heap.size w w' := by
  cases a with
  | none =>
    have e : l = [] := by
      rcases hi with h | ⟨b, off, h, _⟩
      · exact h
      · cases h
    subst e
    have hq : ∀ W : World, (binOp .eql 84 (.slice none 0 cap) (.slice none 0 0)).run Tryz.prog W = .ok (.bool true) W := fun W => Go.Lib.run_eql_slice_nil W _ _ none 0 cap 0 0 Tryz.underlying84
    simp only [List.length_nil]
    go_enter Tryz.func170, Tryz.ntmps170
    go_wp2
    go_ret
    exact ⟨⟨none, 0, rfl, World.ownsRow_nil _ _ _ _⟩, Below.refl _ _⟩
  | some ad =>
    obtain ⟨i0, hi0, hz0, hz1, hz2⟩ := info_parts infoWr
    have B1 : Hid (Below w.heap.size w (w.alloc (.cells #[] 91))) := (Below.refl _ _).alloc (Nat.le_refl _) _
    have O1 : Hid ((w.alloc (.cells #[] 91)).ownsRow w.heap.size 91 4 (.slice (some ⟨w.heap.size, 0, none⟩) 0 0) 0 []) := World.ownsRow_made w #[] 0 (Nat.le_refl _) (by unfold maxLen; omega) rfl
    have HIN : Hid (l.length = 0 ∨ ∃ ad', some ad = some ad' ∧ ∀ j u, (wWr l)[j]? = some u → (w.alloc (.cells #[] 91)).cell? (ad'.add j) = some u) := wWr_in (hi.keep B1.out)
    have HLN : Hid ((wWr l).length = l.length * 4) := wWr_len l
    have HON : Hid (∀ u ∈ wWr l, u.oneCell' = true) := wWr_one l
    have HRW : Hid (∀ X v, X.ownsRow w.heap.size 91 4 v (0 + l.length) ([] ++ wWr l) → ∃ va vc, v = .slice va l.length vc ∧ OwnWr X w.heap.size (.slice va l.length vc) l) := fun X v h => by
      rw [Nat.zero_add, List.nil_append] at h
      obtain ⟨va, vc, rfl, _⟩ := row_form h
      exact ⟨va, vc, rfl, h⟩
    clear hi
    generalize hn : l.length = n at *
    clear hn
    have hq : ∀ W : World, (binOp .eql 84 (.slice (some ad) n cap) (.slice none 0 0)).run Tryz.prog W = .ok (.bool false) W := fun W => Go.Lib.run_eql_slice_nil W _ _ (some ad) n cap 0 0 Tryz.underlying84
    go_enter Tryz.func170, Tryz.ntmps170
    go_wp2_with (at_builtin; refine wpList_plain rfl fun _ hK => wp_append_in _ (.tmp 5) (.tmp 6) 84 91 rfl i0 _ 4 32 Tryz.underlying84 hi0 hz0 hz1 hz2 rfl (by omega) w.heap.size _ 0 [] rfl O1.out (some ad) cap n (wWr l) rfl HLN.out HIN.out HON.out (by unfold maxLen; omega) (by omega) B1.out.size (fun v' w' h1 h2 _ => hK _ _ ?_))
    obtain ⟨va, vc, rfl, ho⟩ := HRW.out _ _ h1
    go_ret
    exact ⟨⟨va, vc, rfl, ho⟩, B1.out.trans h2⟩
theorem hidF2 {p : Prop} (h : p) : Hid p := h
theorem off5 {X : World} {b c o : Nat} (x0 x1 x2 x3 x4 : Value) (h : b ≠ c) : (((((X.setCell ⟨b, 0, none⟩ x0).setCell ⟨b, 1, none⟩ x1).setCell ⟨b, 2, none⟩ x2).setCell ⟨b, 3, none⟩ x3).setCell ⟨b, 4, none⟩ x4).cell? ⟨c, o, none⟩ = X.cell? ⟨c, o, none⟩ := by
  have ne : ∀ i : Nat, (⟨b, i, none⟩ : Addr) ≠ ⟨c, o, none⟩ := fun i e => h (congrArg Addr.block e)
  rw [World.cell?_setCell_other _ _ _ _ (ne _), World.cell?_setCell_other _ _ _ _ (ne _), World.cell?_setCell_other _ _ _ _ (ne _), World.cell?_setCell_other _ _ _ _ (ne _), World.cell?_setCell_other _ _ _ _ (ne _)]
theorem two5 (w : World) (a0 a1 a2 a3 a4 : Value) : ∀ X, Below ((w.alloc (.cells #[a0, a1, a2, a3, a4] 146)).alloc (.cells #[.string ⟨#[]⟩, .string ⟨#[]⟩, .string ⟨#[]⟩, .string ⟨#[]⟩, .slice none 0 0] 146)).heap.size ((w.alloc (.cells #[a0, a1, a2, a3, a4] 146)).alloc (.cells #[.string ⟨#[]⟩, .string ⟨#[]⟩, .string ⟨#[]⟩, .string ⟨#[]⟩, .slice none 0 0] 146)) X → Below w.heap.size w X ∧ (X.cell? ⟨w.heap.size, 0, none⟩ = some a0 ∧ X.cell? ⟨w.heap.size, 1, none⟩ = some a1 ∧ X.cell? ⟨w.heap.size, 2, none⟩ = some a2 ∧ X.cell? ⟨w.heap.size, 3, none⟩ = some a3 ∧ X.cell? ⟨w.heap.size, 4, none⟩ = some a4) ∧ (X.cell? ⟨w.heap.size + 1, 0, none⟩ = some (.string ⟨#[]⟩) ∧ X.cell? ⟨w.heap.size + 1, 1, none⟩ = some (.string ⟨#[]⟩) ∧ X.cell? ⟨w.heap.size + 1, 2, none⟩ = some (.string ⟨#[]⟩) ∧ X.cell? ⟨w.heap.size + 1, 3, none⟩ = some (.string ⟨#[]⟩) ∧ X.cell? ⟨w.heap.size + 1, 4, none⟩ = some (.slice none 0 0)) ∧ (∀ o, X.frozen? ⟨w.heap.size + 1, o, none⟩ = false) := fun X hX => by
  have al : Below w.heap.size w ((w.alloc (.cells #[a0, a1, a2, a3, a4] 146)).alloc (.cells #[.string ⟨#[]⟩, .string ⟨#[]⟩, .string ⟨#[]⟩, .string ⟨#[]⟩, .slice none 0 0] 146)) := ((Below.refl _ _).alloc (Nat.le_refl _) _).alloc (by simp) _
  have h0 : w.heap.size < ((w.alloc (.cells #[a0, a1, a2, a3, a4] 146)).alloc (.cells #[.string ⟨#[]⟩, .string ⟨#[]⟩, .string ⟨#[]⟩, .string ⟨#[]⟩, .slice none 0 0] 146)).heap.size := by simp; omega
  have h1 : w.heap.size + 1 < ((w.alloc (.cells #[a0, a1, a2, a3, a4] 146)).alloc (.cells #[.string ⟨#[]⟩, .string ⟨#[]⟩, .string ⟨#[]⟩, .string ⟨#[]⟩, .slice none 0 0] 146)).heap.size := by simp
  refine ⟨al.trans (hX.mono al.size), ⟨?_, ?_, ?_, ?_, ?_⟩, ⟨?_, ?_, ?_, ?_, ?_⟩, fun o => ?_⟩
  · rw [hX.cell (p := ⟨w.heap.size, 0, none⟩) h0]; simp
  · rw [hX.cell (p := ⟨w.heap.size, 1, none⟩) h0]; simp
  · rw [hX.cell (p := ⟨w.heap.size, 2, none⟩) h0]; simp
  · rw [hX.cell (p := ⟨w.heap.size, 3, none⟩) h0]; simp
  · rw [hX.cell (p := ⟨w.heap.size, 4, none⟩) h0]; simp
  · rw [hX.cell (p := ⟨w.heap.size + 1, 0, none⟩) h1]; simp
  · rw [hX.cell (p := ⟨w.heap.size + 1, 1, none⟩) h1]; simp
  · rw [hX.cell (p := ⟨w.heap.size + 1, 2, none⟩) h1]; simp
  · rw [hX.cell (p := ⟨w.heap.size + 1, 3, none⟩) h1]; simp
  · rw [hX.cell (p := ⟨w.heap.size + 1, 4, none⟩) h1]; simp
  · rw [hX.frozen (p := ⟨w.heap.size + 1, o, none⟩) h1]; simp
set_option maxRecDepth 100000 in
set_option maxHeartbeats 8000000 in
theorem askAnew_any (w : World) (key m h p : ByteArray) (ha : Option Addr) (hc : Nat) (hs : List Hdr) (hk : key.size ≤ 1048576) (hm : m.size ≤ 1048576) (hh : h.size ≤ 1048576) (hp : p.size ≤ 1048576) (hl : hs.length ≤ 1048576) (hsm : ∀ r ∈ hs, r.name.size ≤ 1048576 ∧ r.value.size ≤ 1048576) (hi : HdsIn w ha hs) :
    Calls Tryz.prog 169 #[.agg #[.string key, .string m, .string h, .string p, .slice ha hs.length hc]] w fun e w' => (∃ va vc, e = .returned (.agg #[.string key, .string m, .string h, .string p, .slice va hs.length vc]) ∧ RowH w' w.heap.size (.slice va hs.length vc) hs) ∧ Below w.heap.size w w' := by
  obtain ⟨W, hW⟩ : ∃ W, W = ((w.alloc (.cells #[.string key, .string m, .string h, .string p, .slice ha hs.length hc] 146)).alloc (.cells #[.string ⟨#[]⟩, .string ⟨#[]⟩, .string ⟨#[]⟩, .string ⟨#[]⟩, .slice none 0 0] 146)) := ⟨_, rfl⟩
  have HW : Hid (W = ((w.alloc (.cells #[.string key, .string m, .string h, .string p, .slice ha hs.length hc] 146)).alloc (.cells #[.string ⟨#[]⟩, .string ⟨#[]⟩, .string ⟨#[]⟩, .string ⟨#[]⟩, .slice none 0 0] 146))) := hW
  have K0 := two5 w (.string key) (.string m) (.string h) (.string p) (.slice ha hs.length hc)
  rw [← hW] at K0
  have hWs : w.heap.size + 1 < W.heap.size := by rw [hW]; simp
  have CK : Hid (∀ X, Calls Tryz.prog 142 #[.string key] X fun e w' => e = .returned (.string key) ∧ Below X.heap.size X w') := fun X => clone_text key X hk
  have CR : Hid (∀ X, Below w.heap.size w X → Calls Tryz.prog 218 #[.agg #[.string m, .string h, .string p, .slice ha hs.length hc]] X fun e w' => (∃ va vc, e = .returned (.agg #[.string m, .string h, .string p, .slice va hs.length vc]) ∧ RowH w' X.heap.size (.slice va hs.length vc) hs) ∧ Below X.heap.size X w') := fun X hX => reqAnew_any X m h p ha hc hs hm hh hp hl hsm (hi.keep hX)
  clear hW hi hsm hl hk hm hh hp
  generalize hs.length = n at *
  have HKS : Hid (∀ X, Below W.heap.size W X → X.cell? ⟨w.heap.size, 0, none⟩ = some (.string key) ∧ X.cell? ⟨w.heap.size, 1, none⟩ = some (.string m) ∧ X.cell? ⟨w.heap.size, 2, none⟩ = some (.string h) ∧ X.cell? ⟨w.heap.size, 3, none⟩ = some (.string p) ∧ X.cell? ⟨w.heap.size, 4, none⟩ = some (.slice ha n hc)) := fun X hX => (K0 X hX).2.1
  have HKZ := fun X hX => (K0 X hX).2.2
  have HKB := fun X hX => (K0 X hX).1
  have BZ : Hid (Below W.heap.size W W.drew) := (Below.refl _ _).drew
  have HKZ' := hidF2 HKZ
  have HKB' := hidF2 HKB
  clear K0 HKZ HKB
  go_enter Tryz.func169, Tryz.ntmps169
  go_wp2_with fail
  rw [← HW.out]
  clear HW
  go_region_held3 (fun X => X.cell? ⟨w.heap.size, 0, none⟩ = some (.string key) ∧ X.cell? ⟨w.heap.size, 1, none⟩ = some (.string m) ∧ X.cell? ⟨w.heap.size, 2, none⟩ = some (.string h) ∧ X.cell? ⟨w.heap.size, 3, none⟩ = some (.string p) ∧ X.cell? ⟨w.heap.size, 4, none⟩ = some (.slice ha n hc))
    (first | (with_reducible exact SF.out) | ((with_reducible refine HKS.out _ ?_); (with_reducible exact BB.out)) | ((with_reducible refine HKS.out _ ?_); (with_reducible exact BA.out)) | ((with_reducible refine HKS.out _ ?_); (with_reducible exact BZ.out)))
    (first
    | (go_at_call 142; (with_reducible refine (CK.out _).mono ?_); rintro e0 u1 ⟨rfl, hb⟩; have BA : Hid (Below W.heap.size W u1) := BZ.out.trans (hb.mono BZ.out.size); clear hb)
    | (go_at_call 218; (with_reducible refine (CR.out u1 (HKB'.out u1 BA.out)).mono ?_); rintro e0 u2 ⟨⟨va, vc, rfl, hrow⟩, hb⟩; have BB : Hid (Below W.heap.size W u2) := BA.out.trans (hb.mono BA.out.size); have HR : Hid (RowH u2 u1.heap.size (.slice va n vc) hs ∧ W.heap.size ≤ u1.heap.size) := ⟨hrow, BA.out.size⟩; obtain ⟨⟨z0, z1, z2, z3, z4⟩, zf⟩ := HKZ'.out u2 BB.out; have zf0 := zf 0; have zf1 := zf 1; have zf2 := zf 2; have zf3 := zf 3; have zf4 := zf 4; have SF : Hid ((((((u2.setCell ⟨w.heap.size + 1, 0, none⟩ (.string key)).setCell ⟨w.heap.size + 1, 1, none⟩ (.string m)).setCell ⟨w.heap.size + 1, 2, none⟩ (.string h)).setCell ⟨w.heap.size + 1, 3, none⟩ (.string p)).setCell ⟨w.heap.size + 1, 4, none⟩ (.slice va n vc)).cell? ⟨w.heap.size, 0, none⟩ = some (.string key) ∧ (((((u2.setCell ⟨w.heap.size + 1, 0, none⟩ (.string key)).setCell ⟨w.heap.size + 1, 1, none⟩ (.string m)).setCell ⟨w.heap.size + 1, 2, none⟩ (.string h)).setCell ⟨w.heap.size + 1, 3, none⟩ (.string p)).setCell ⟨w.heap.size + 1, 4, none⟩ (.slice va n vc)).cell? ⟨w.heap.size, 1, none⟩ = some (.string m) ∧ (((((u2.setCell ⟨w.heap.size + 1, 0, none⟩ (.string key)).setCell ⟨w.heap.size + 1, 1, none⟩ (.string m)).setCell ⟨w.heap.size + 1, 2, none⟩ (.string h)).setCell ⟨w.heap.size + 1, 3, none⟩ (.string p)).setCell ⟨w.heap.size + 1, 4, none⟩ (.slice va n vc)).cell? ⟨w.heap.size, 2, none⟩ = some (.string h) ∧ (((((u2.setCell ⟨w.heap.size + 1, 0, none⟩ (.string key)).setCell ⟨w.heap.size + 1, 1, none⟩ (.string m)).setCell ⟨w.heap.size + 1, 2, none⟩ (.string h)).setCell ⟨w.heap.size + 1, 3, none⟩ (.string p)).setCell ⟨w.heap.size + 1, 4, none⟩ (.slice va n vc)).cell? ⟨w.heap.size, 3, none⟩ = some (.string p) ∧ (((((u2.setCell ⟨w.heap.size + 1, 0, none⟩ (.string key)).setCell ⟨w.heap.size + 1, 1, none⟩ (.string m)).setCell ⟨w.heap.size + 1, 2, none⟩ (.string h)).setCell ⟨w.heap.size + 1, 3, none⟩ (.string p)).setCell ⟨w.heap.size + 1, 4, none⟩ (.slice va n vc)).cell? ⟨w.heap.size, 4, none⟩ = some (.slice ha n hc)) := (by have q := HKS.out u2 BB.out; exact ⟨(off5 _ _ _ _ _ (by omega)).trans q.1, (off5 _ _ _ _ _ (by omega)).trans q.2.1, (off5 _ _ _ _ _ (by omega)).trans q.2.2.1, (off5 _ _ _ _ _ (by omega)).trans q.2.2.2.1, (off5 _ _ _ _ _ (by omega)).trans q.2.2.2.2⟩); clear hb hrow zf))
  have HF : Hid (RowH (((((u2.setCell ⟨w.heap.size + 1, 0, none⟩ (.string key)).setCell ⟨w.heap.size + 1, 1, none⟩ (.string m)).setCell ⟨w.heap.size + 1, 2, none⟩ (.string h)).setCell ⟨w.heap.size + 1, 3, none⟩ (.string p)).setCell ⟨w.heap.size + 1, 4, none⟩ (.slice va n vc)) w.heap.size (.slice va n vc) hs ∧ Below w.heap.size w (((((u2.setCell ⟨w.heap.size + 1, 0, none⟩ (.string key)).setCell ⟨w.heap.size + 1, 1, none⟩ (.string m)).setCell ⟨w.heap.size + 1, 2, none⟩ (.string h)).setCell ⟨w.heap.size + 1, 3, none⟩ (.string p)).setCell ⟨w.heap.size + 1, 4, none⟩ (.slice va n vc))) := by
    have hx := HR.out
    have b4 := HKB'.out u2 BB.out
    have hne : ∀ q, Value.ownBlock (.slice va n vc) = some q → q ≠ w.heap.size + 1 := fun q hq => by have := (World.ownsRow.lt hx.1 q hq).1; omega
    exact ⟨row_lower (row_neF (row_neF (row_neF (row_neF (row_neF hx.1 _ hne) _ hne) _ hne) _ hne) _ hne) (by omega), ((((b4.setCell (by simp) _).setCell (by simp) _).setCell (by simp) _).setCell (by simp) _).setCell (by simp) _⟩
  go_wp2_with fail
  exact bodyPost_ret (v := .agg #[.string key, .string m, .string h, .string p, .slice va n vc]) (by simp [results, Tryz.results169, go_sem, z0, z1, z2, z3, z4]) rfl ⟨⟨va, vc, rfl, HF.out.1⟩, HF.out.2⟩
end Go.Proofs.YtacninhhkbglaaaGreatDoor
/-
  A flight in new memory, by the program.
-/
namespace Go.Proofs.YtacninhhkbglaaaGreatDoor
open Go.ChangeShapes Go.WideShapes Go.ChangeAt Go.RowKit Go.Sort
theorem off11 {X : World} {b c o : Nat} (x0 x1 x2 x3 x4 x5 x6 x7 x8 x9 x10 : Value) (h : b ≠ c) : ((((((((((((X.setCell ⟨b, 0, none⟩ x0).setCell ⟨b, 1, none⟩ x1).setCell ⟨b, 2, none⟩ x2).setCell ⟨b, 3, none⟩ x3).setCell ⟨b, 4, none⟩ x4).setCell ⟨b, 5, none⟩ x5).setCell ⟨b, 6, none⟩ x6).setCell ⟨b, 7, none⟩ x7).setCell ⟨b, 8, none⟩ x8).setCell ⟨b, 9, none⟩ x9).setCell ⟨b, 10, none⟩ x10)).cell? ⟨c, o, none⟩ = X.cell? ⟨c, o, none⟩ := by
  have ne : ∀ i : Nat, (⟨b, i, none⟩ : Addr) ≠ ⟨c, o, none⟩ := fun i e => h (congrArg Addr.block e)
  rw [World.cell?_setCell_other _ _ _ _ (ne _), World.cell?_setCell_other _ _ _ _ (ne _), World.cell?_setCell_other _ _ _ _ (ne _), World.cell?_setCell_other _ _ _ _ (ne _), World.cell?_setCell_other _ _ _ _ (ne _), World.cell?_setCell_other _ _ _ _ (ne _), World.cell?_setCell_other _ _ _ _ (ne _), World.cell?_setCell_other _ _ _ _ (ne _), World.cell?_setCell_other _ _ _ _ (ne _), World.cell?_setCell_other _ _ _ _ (ne _), World.cell?_setCell_other _ _ _ _ (ne _)]
set_option maxRecDepth 100000 in
set_option maxHeartbeats 16000000 in
theorem flightWith_any (w : World) (id : Int) (key : ByteArray) (bk ot : Bool) (du : Int) (dm : Bool) (m h p : ByteArray) (ha : Option Addr) (hc : Nat) (hs : List Hdr) (oa : Option Addr) (on oc : Nat) (wa : Option Addr) (wc : Nat) (l : List Wr) (hk : key.size ≤ 1048576) (hm : m.size ≤ 1048576) (hh : h.size ≤ 1048576) (hp : p.size ≤ 1048576) (hl : hs.length ≤ 1048576) (hsm : ∀ r ∈ hs, r.name.size ≤ 1048576 ∧ r.value.size ≤ 1048576) (hi : HdsIn w ha hs) (hwl : l.length ≤ 1048576) (hw : WrIn w wa l) :
    Calls Tryz.prog 85 #[.agg #[.string key, .string m, .string h, .string p, .slice ha hs.length hc, .int .i64 id, .bool bk, .bool ot, .int .i64 du, .bool dm, .slice oa on oc], .slice wa l.length wc] w fun e w' => (∃ va vc xa xc, e = .returned (.agg #[.int .i64 id, .string key, .bool bk, .bool ot, .int .i64 du, .bool dm, .string m, .string h, .string p, .slice va hs.length vc, .slice xa l.length xc]) ∧ RowH w' w.heap.size (.slice va hs.length vc) hs ∧ OwnWr w' w.heap.size (.slice xa l.length xc) l ∧ (∀ q, Value.ownBlock (.slice va hs.length vc) = some q → ∀ q', Value.ownBlock (.slice xa l.length xc) = some q' → q ≠ q')) ∧ Below w.heap.size w w' := by
  obtain ⟨W, hW⟩ : ∃ W, W = ((w.alloc (.cells #[.string key, .string m, .string h, .string p, .slice ha hs.length hc, .int .i64 id, .bool bk, .bool ot, .int .i64 du, .bool dm, .slice oa on oc] 150)).alloc (.cells #[.int .i64 0, .string ⟨#[]⟩, .bool false, .bool false, .int .i64 0, .bool false, .string ⟨#[]⟩, .string ⟨#[]⟩, .string ⟨#[]⟩, .slice none 0 0, .slice none 0 0] 86)) := ⟨_, rfl⟩
  have HW : Hid (W = ((w.alloc (.cells #[.string key, .string m, .string h, .string p, .slice ha hs.length hc, .int .i64 id, .bool bk, .bool ot, .int .i64 du, .bool dm, .slice oa on oc] 150)).alloc (.cells #[.int .i64 0, .string ⟨#[]⟩, .bool false, .bool false, .int .i64 0, .bool false, .string ⟨#[]⟩, .string ⟨#[]⟩, .string ⟨#[]⟩, .slice none 0 0, .slice none 0 0] 86))) := hW
  have hWs : w.heap.size + 1 < W.heap.size := by rw [hW]; simp
  have K0 : Hid (∀ X, Below W.heap.size W X → Below w.heap.size w X ∧ E11 X w.heap.size (.string key) (.string m) (.string h) (.string p) (.slice ha hs.length hc) (.int .i64 id) (.bool bk) (.bool ot) (.int .i64 du) (.bool dm) (.slice oa on oc) ∧ E11 X (w.heap.size + 1) (.int .i64 0) (.string ⟨#[]⟩) (.bool false) (.bool false) (.int .i64 0) (.bool false) (.string ⟨#[]⟩) (.string ⟨#[]⟩) (.string ⟨#[]⟩) (.slice none 0 0) (.slice none 0 0)) := fun X hX => by
    have al : Below w.heap.size w W := by rw [hW]; exact ((Below.refl _ _).alloc (Nat.le_refl _) _).alloc (by simp) _
    have e0 : E11 W w.heap.size (.string key) (.string m) (.string h) (.string p) (.slice ha hs.length hc) (.int .i64 id) (.bool bk) (.bool ot) (.int .i64 du) (.bool dm) (.slice oa on oc) := by rw [hW]; exact (E11.new w _ _ _ _ _ _ _ _ _ _ _ _).keep ((Below.refl _ _).alloc (Nat.le_refl _) _)
    have e1 : E11 W (w.heap.size + 1) (.int .i64 0) (.string ⟨#[]⟩) (.bool false) (.bool false) (.int .i64 0) (.bool false) (.string ⟨#[]⟩) (.string ⟨#[]⟩) (.string ⟨#[]⟩) (.slice none 0 0) (.slice none 0 0) := by
      rw [hW]
      have := E11.new (w.alloc (.cells #[.string key, .string m, .string h, .string p, .slice ha hs.length hc, .int .i64 id, .bool bk, .bool ot, .int .i64 du, .bool dm, .slice oa on oc] 150)) (.int .i64 0) (.string ⟨#[]⟩) (.bool false) (.bool false) (.int .i64 0) (.bool false) (.string ⟨#[]⟩) (.string ⟨#[]⟩) (.string ⟨#[]⟩) (.slice none 0 0) (.slice none 0 0) 86
      simpa using this
    exact ⟨al.trans (hX.mono al.size), e0.keep hX, e1.keep hX⟩
  have CA : Hid (∀ X, Below w.heap.size w X → Calls Tryz.prog 169 #[.agg #[.string key, .string m, .string h, .string p, .slice ha hs.length hc]] X fun e w' => (∃ va vc, e = .returned (.agg #[.string key, .string m, .string h, .string p, .slice va hs.length vc]) ∧ RowH w' X.heap.size (.slice va hs.length vc) hs) ∧ Below X.heap.size X w') := fun X hX => askAnew_any X key m h p ha hc hs hk hm hh hp hl hsm (hi.keep hX)
  have CC : Hid (∀ X, Below w.heap.size w X → Calls Tryz.prog 170 #[.slice wa l.length wc] X fun e w' => (∃ xa xc, e = .returned (.slice xa l.length xc) ∧ OwnWr w' X.heap.size (.slice xa l.length xc) l) ∧ Below X.heap.size X w') := fun X hX => cloneWr_any X wa wc l hwl (hw.keep hX)
  clear hW hi hsm hl hk hm hh hp hwl hw
  generalize hs.length = n at *
  generalize l.length = k at *
  go_enter Tryz.func85, Tryz.ntmps85
  go_wp2_with fail
  rw [← HW.out]
  clear HW
  refine (CA.out W (K0.out W (Below.refl _ _)).1).mono ?_
  rintro e0 u1 ⟨⟨va, vc, rfl, hrow⟩, hb1⟩
  obtain ⟨V, hV⟩ : ∃ V, V = u1.alloc (.cells #[.string key, .string m, .string h, .string p, .slice va n vc] 146) := ⟨_, rfl⟩
  have HV : Hid (V = u1.alloc (.cells #[.string key, .string m, .string h, .string p, .slice va n vc] 146)) := hV
  obtain ⟨O, hO⟩ : ∃ O, u1.heap.size = O := ⟨_, rfl⟩
  have al : Below u1.heap.size u1 V := by rw [hV]; exact (Below.refl _ _).alloc (Nat.le_refl _) _
  have HO : Hid (W.heap.size ≤ O ∧ O < V.heap.size) := ⟨hO ▸ hb1.size, by rw [hV, ← hO]; simp⟩
  have BV : Hid (Below W.heap.size W V) := hb1.trans (al.mono hb1.size)
  have HRV : Hid (RowH V W.heap.size (.slice va n vc) hs ∧ ∀ q, Value.ownBlock (.slice va n vc) = some q → q < V.heap.size) := ⟨row_below hrow al, fun q hq => (World.ownsRow.lt (row_below hrow al) q hq).2⟩
  have HKS : Hid (∀ X, Below V.heap.size V X → X.cell? ⟨w.heap.size, 5, none⟩ = some (.int .i64 id) ∧ X.cell? ⟨w.heap.size, 6, none⟩ = some (.bool bk) ∧ X.cell? ⟨w.heap.size, 7, none⟩ = some (.bool ot) ∧ X.cell? ⟨w.heap.size, 8, none⟩ = some (.int .i64 du) ∧ X.cell? ⟨w.heap.size, 9, none⟩ = some (.bool dm) ∧ X.cell? ⟨O, 0, none⟩ = some (.string key) ∧ X.cell? ⟨O, 1, none⟩ = some (.string m) ∧ X.cell? ⟨O, 2, none⟩ = some (.string h) ∧ X.cell? ⟨O, 3, none⟩ = some (.string p) ∧ X.cell? ⟨O, 4, none⟩ = some (.slice va n vc)) := fun X hX => by
    have q := (K0.out X (BV.out.trans (hX.mono BV.out.size))).2.1
    have hc0 : ∀ o, X.cell? ⟨O, o, none⟩ = V.cell? ⟨O, o, none⟩ := fun o => hX.cell (p := ⟨O, o, none⟩) HO.out.2
    rw [hc0, hc0, hc0, hc0, hc0, hV, ← hO]
    exact ⟨q.c5, q.c6, q.c7, q.c8, q.c9, by simp, by simp, by simp, by simp, by simp⟩
  have BZ : Hid (Below V.heap.size V V.drew) := (Below.refl _ _).drew
  clear hrow hb1 al hV CA
  go_upto_region 2 with fail
  rw [← HV.out]
  clear HV hO u1
  go_region_held3 (fun X => X.cell? ⟨w.heap.size, 5, none⟩ = some (.int .i64 id) ∧ X.cell? ⟨w.heap.size, 6, none⟩ = some (.bool bk) ∧ X.cell? ⟨w.heap.size, 7, none⟩ = some (.bool ot) ∧ X.cell? ⟨w.heap.size, 8, none⟩ = some (.int .i64 du) ∧ X.cell? ⟨w.heap.size, 9, none⟩ = some (.bool dm) ∧ X.cell? ⟨O, 0, none⟩ = some (.string key) ∧ X.cell? ⟨O, 1, none⟩ = some (.string m) ∧ X.cell? ⟨O, 2, none⟩ = some (.string h) ∧ X.cell? ⟨O, 3, none⟩ = some (.string p) ∧ X.cell? ⟨O, 4, none⟩ = some (.slice va n vc))
    (first | (with_reducible exact SF.out) | ((with_reducible refine HKS.out _ ?_); (with_reducible exact BB.out)) | ((with_reducible refine HKS.out _ ?_); (with_reducible exact BZ.out)))
    (first
    | (go_at_call 170; (with_reducible refine (CC.out V.drew (K0.out _ (BV.out.trans (BZ.out.mono BV.out.size))).1).mono ?_); rintro e0 u2 ⟨⟨xa, xc, rfl, ho⟩, hb⟩; have BB : Hid (Below V.heap.size V u2) := BZ.out.trans (hb.mono BZ.out.size); have HX : Hid (OwnWr u2 V.heap.size (.slice xa k xc) l) := ho.lower BZ.out.size; obtain ⟨z0, z1, z2, z3, z4, z5, z6, z7, z8, z9, z10, zf, zl⟩ := (K0.out u2 (BV.out.trans (BB.out.mono BV.out.size))).2.2; have zf0 := zf 0; have zf1 := zf 1; have zf2 := zf 2; have zf3 := zf 3; have zf4 := zf 4; have zf5 := zf 5; have zf6 := zf 6; have zf7 := zf 7; have zf8 := zf 8; have zf9 := zf 9; have zf10 := zf 10; have SF : Hid ((((((((((((u2.setCell ⟨w.heap.size + 1, 0, none⟩ (.int .i64 id)).setCell ⟨w.heap.size + 1, 1, none⟩ (.string key)).setCell ⟨w.heap.size + 1, 2, none⟩ (.bool bk)).setCell ⟨w.heap.size + 1, 3, none⟩ (.bool ot)).setCell ⟨w.heap.size + 1, 4, none⟩ (.int .i64 du)).setCell ⟨w.heap.size + 1, 5, none⟩ (.bool dm)).setCell ⟨w.heap.size + 1, 6, none⟩ (.string m)).setCell ⟨w.heap.size + 1, 7, none⟩ (.string h)).setCell ⟨w.heap.size + 1, 8, none⟩ (.string p)).setCell ⟨w.heap.size + 1, 9, none⟩ (.slice va n vc)).setCell ⟨w.heap.size + 1, 10, none⟩ (.slice xa k xc)).cell? ⟨w.heap.size, 5, none⟩ = some (.int .i64 id) ∧ (((((((((((u2.setCell ⟨w.heap.size + 1, 0, none⟩ (.int .i64 id)).setCell ⟨w.heap.size + 1, 1, none⟩ (.string key)).setCell ⟨w.heap.size + 1, 2, none⟩ (.bool bk)).setCell ⟨w.heap.size + 1, 3, none⟩ (.bool ot)).setCell ⟨w.heap.size + 1, 4, none⟩ (.int .i64 du)).setCell ⟨w.heap.size + 1, 5, none⟩ (.bool dm)).setCell ⟨w.heap.size + 1, 6, none⟩ (.string m)).setCell ⟨w.heap.size + 1, 7, none⟩ (.string h)).setCell ⟨w.heap.size + 1, 8, none⟩ (.string p)).setCell ⟨w.heap.size + 1, 9, none⟩ (.slice va n vc)).setCell ⟨w.heap.size + 1, 10, none⟩ (.slice xa k xc)).cell? ⟨w.heap.size, 6, none⟩ = some (.bool bk) ∧ (((((((((((u2.setCell ⟨w.heap.size + 1, 0, none⟩ (.int .i64 id)).setCell ⟨w.heap.size + 1, 1, none⟩ (.string key)).setCell ⟨w.heap.size + 1, 2, none⟩ (.bool bk)).setCell ⟨w.heap.size + 1, 3, none⟩ (.bool ot)).setCell ⟨w.heap.size + 1, 4, none⟩ (.int .i64 du)).setCell ⟨w.heap.size + 1, 5, none⟩ (.bool dm)).setCell ⟨w.heap.size + 1, 6, none⟩ (.string m)).setCell ⟨w.heap.size + 1, 7, none⟩ (.string h)).setCell ⟨w.heap.size + 1, 8, none⟩ (.string p)).setCell ⟨w.heap.size + 1, 9, none⟩ (.slice va n vc)).setCell ⟨w.heap.size + 1, 10, none⟩ (.slice xa k xc)).cell? ⟨w.heap.size, 7, none⟩ = some (.bool ot) ∧ (((((((((((u2.setCell ⟨w.heap.size + 1, 0, none⟩ (.int .i64 id)).setCell ⟨w.heap.size + 1, 1, none⟩ (.string key)).setCell ⟨w.heap.size + 1, 2, none⟩ (.bool bk)).setCell ⟨w.heap.size + 1, 3, none⟩ (.bool ot)).setCell ⟨w.heap.size + 1, 4, none⟩ (.int .i64 du)).setCell ⟨w.heap.size + 1, 5, none⟩ (.bool dm)).setCell ⟨w.heap.size + 1, 6, none⟩ (.string m)).setCell ⟨w.heap.size + 1, 7, none⟩ (.string h)).setCell ⟨w.heap.size + 1, 8, none⟩ (.string p)).setCell ⟨w.heap.size + 1, 9, none⟩ (.slice va n vc)).setCell ⟨w.heap.size + 1, 10, none⟩ (.slice xa k xc)).cell? ⟨w.heap.size, 8, none⟩ = some (.int .i64 du) ∧ (((((((((((u2.setCell ⟨w.heap.size + 1, 0, none⟩ (.int .i64 id)).setCell ⟨w.heap.size + 1, 1, none⟩ (.string key)).setCell ⟨w.heap.size + 1, 2, none⟩ (.bool bk)).setCell ⟨w.heap.size + 1, 3, none⟩ (.bool ot)).setCell ⟨w.heap.size + 1, 4, none⟩ (.int .i64 du)).setCell ⟨w.heap.size + 1, 5, none⟩ (.bool dm)).setCell ⟨w.heap.size + 1, 6, none⟩ (.string m)).setCell ⟨w.heap.size + 1, 7, none⟩ (.string h)).setCell ⟨w.heap.size + 1, 8, none⟩ (.string p)).setCell ⟨w.heap.size + 1, 9, none⟩ (.slice va n vc)).setCell ⟨w.heap.size + 1, 10, none⟩ (.slice xa k xc)).cell? ⟨w.heap.size, 9, none⟩ = some (.bool dm) ∧ (((((((((((u2.setCell ⟨w.heap.size + 1, 0, none⟩ (.int .i64 id)).setCell ⟨w.heap.size + 1, 1, none⟩ (.string key)).setCell ⟨w.heap.size + 1, 2, none⟩ (.bool bk)).setCell ⟨w.heap.size + 1, 3, none⟩ (.bool ot)).setCell ⟨w.heap.size + 1, 4, none⟩ (.int .i64 du)).setCell ⟨w.heap.size + 1, 5, none⟩ (.bool dm)).setCell ⟨w.heap.size + 1, 6, none⟩ (.string m)).setCell ⟨w.heap.size + 1, 7, none⟩ (.string h)).setCell ⟨w.heap.size + 1, 8, none⟩ (.string p)).setCell ⟨w.heap.size + 1, 9, none⟩ (.slice va n vc)).setCell ⟨w.heap.size + 1, 10, none⟩ (.slice xa k xc)).cell? ⟨O, 0, none⟩ = some (.string key) ∧ (((((((((((u2.setCell ⟨w.heap.size + 1, 0, none⟩ (.int .i64 id)).setCell ⟨w.heap.size + 1, 1, none⟩ (.string key)).setCell ⟨w.heap.size + 1, 2, none⟩ (.bool bk)).setCell ⟨w.heap.size + 1, 3, none⟩ (.bool ot)).setCell ⟨w.heap.size + 1, 4, none⟩ (.int .i64 du)).setCell ⟨w.heap.size + 1, 5, none⟩ (.bool dm)).setCell ⟨w.heap.size + 1, 6, none⟩ (.string m)).setCell ⟨w.heap.size + 1, 7, none⟩ (.string h)).setCell ⟨w.heap.size + 1, 8, none⟩ (.string p)).setCell ⟨w.heap.size + 1, 9, none⟩ (.slice va n vc)).setCell ⟨w.heap.size + 1, 10, none⟩ (.slice xa k xc)).cell? ⟨O, 1, none⟩ = some (.string m) ∧ (((((((((((u2.setCell ⟨w.heap.size + 1, 0, none⟩ (.int .i64 id)).setCell ⟨w.heap.size + 1, 1, none⟩ (.string key)).setCell ⟨w.heap.size + 1, 2, none⟩ (.bool bk)).setCell ⟨w.heap.size + 1, 3, none⟩ (.bool ot)).setCell ⟨w.heap.size + 1, 4, none⟩ (.int .i64 du)).setCell ⟨w.heap.size + 1, 5, none⟩ (.bool dm)).setCell ⟨w.heap.size + 1, 6, none⟩ (.string m)).setCell ⟨w.heap.size + 1, 7, none⟩ (.string h)).setCell ⟨w.heap.size + 1, 8, none⟩ (.string p)).setCell ⟨w.heap.size + 1, 9, none⟩ (.slice va n vc)).setCell ⟨w.heap.size + 1, 10, none⟩ (.slice xa k xc)).cell? ⟨O, 2, none⟩ = some (.string h) ∧ (((((((((((u2.setCell ⟨w.heap.size + 1, 0, none⟩ (.int .i64 id)).setCell ⟨w.heap.size + 1, 1, none⟩ (.string key)).setCell ⟨w.heap.size + 1, 2, none⟩ (.bool bk)).setCell ⟨w.heap.size + 1, 3, none⟩ (.bool ot)).setCell ⟨w.heap.size + 1, 4, none⟩ (.int .i64 du)).setCell ⟨w.heap.size + 1, 5, none⟩ (.bool dm)).setCell ⟨w.heap.size + 1, 6, none⟩ (.string m)).setCell ⟨w.heap.size + 1, 7, none⟩ (.string h)).setCell ⟨w.heap.size + 1, 8, none⟩ (.string p)).setCell ⟨w.heap.size + 1, 9, none⟩ (.slice va n vc)).setCell ⟨w.heap.size + 1, 10, none⟩ (.slice xa k xc)).cell? ⟨O, 3, none⟩ = some (.string p) ∧ (((((((((((u2.setCell ⟨w.heap.size + 1, 0, none⟩ (.int .i64 id)).setCell ⟨w.heap.size + 1, 1, none⟩ (.string key)).setCell ⟨w.heap.size + 1, 2, none⟩ (.bool bk)).setCell ⟨w.heap.size + 1, 3, none⟩ (.bool ot)).setCell ⟨w.heap.size + 1, 4, none⟩ (.int .i64 du)).setCell ⟨w.heap.size + 1, 5, none⟩ (.bool dm)).setCell ⟨w.heap.size + 1, 6, none⟩ (.string m)).setCell ⟨w.heap.size + 1, 7, none⟩ (.string h)).setCell ⟨w.heap.size + 1, 8, none⟩ (.string p)).setCell ⟨w.heap.size + 1, 9, none⟩ (.slice va n vc)).setCell ⟨w.heap.size + 1, 10, none⟩ (.slice xa k xc)).cell? ⟨O, 4, none⟩ = some (.slice va n vc)) := (by have q := HKS.out u2 BB.out; have ho := HO.out; refine ⟨?_, ?_, ?_, ?_, ?_, ?_, ?_, ?_, ?_, ?_⟩; exact (off11 _ _ _ _ _ _ _ _ _ _ _ (by omega)).trans q.1; exact (off11 _ _ _ _ _ _ _ _ _ _ _ (by omega)).trans q.2.1; exact (off11 _ _ _ _ _ _ _ _ _ _ _ (by omega)).trans q.2.2.1; exact (off11 _ _ _ _ _ _ _ _ _ _ _ (by omega)).trans q.2.2.2.1; exact (off11 _ _ _ _ _ _ _ _ _ _ _ (by omega)).trans q.2.2.2.2.1; exact (off11 _ _ _ _ _ _ _ _ _ _ _ (by omega)).trans q.2.2.2.2.2.1; exact (off11 _ _ _ _ _ _ _ _ _ _ _ (by omega)).trans q.2.2.2.2.2.2.1; exact (off11 _ _ _ _ _ _ _ _ _ _ _ (by omega)).trans q.2.2.2.2.2.2.2.1; exact (off11 _ _ _ _ _ _ _ _ _ _ _ (by omega)).trans q.2.2.2.2.2.2.2.2.1; exact (off11 _ _ _ _ _ _ _ _ _ _ _ (by omega)).trans q.2.2.2.2.2.2.2.2.2); clear hb ho zf zl))
  have HF : Hid (RowH (((((((((((u2.setCell ⟨w.heap.size + 1, 0, none⟩ (.int .i64 id)).setCell ⟨w.heap.size + 1, 1, none⟩ (.string key)).setCell ⟨w.heap.size + 1, 2, none⟩ (.bool bk)).setCell ⟨w.heap.size + 1, 3, none⟩ (.bool ot)).setCell ⟨w.heap.size + 1, 4, none⟩ (.int .i64 du)).setCell ⟨w.heap.size + 1, 5, none⟩ (.bool dm)).setCell ⟨w.heap.size + 1, 6, none⟩ (.string m)).setCell ⟨w.heap.size + 1, 7, none⟩ (.string h)).setCell ⟨w.heap.size + 1, 8, none⟩ (.string p)).setCell ⟨w.heap.size + 1, 9, none⟩ (.slice va n vc)).setCell ⟨w.heap.size + 1, 10, none⟩ (.slice xa k xc)) w.heap.size (.slice va n vc) hs ∧ OwnWr (((((((((((u2.setCell ⟨w.heap.size + 1, 0, none⟩ (.int .i64 id)).setCell ⟨w.heap.size + 1, 1, none⟩ (.string key)).setCell ⟨w.heap.size + 1, 2, none⟩ (.bool bk)).setCell ⟨w.heap.size + 1, 3, none⟩ (.bool ot)).setCell ⟨w.heap.size + 1, 4, none⟩ (.int .i64 du)).setCell ⟨w.heap.size + 1, 5, none⟩ (.bool dm)).setCell ⟨w.heap.size + 1, 6, none⟩ (.string m)).setCell ⟨w.heap.size + 1, 7, none⟩ (.string h)).setCell ⟨w.heap.size + 1, 8, none⟩ (.string p)).setCell ⟨w.heap.size + 1, 9, none⟩ (.slice va n vc)).setCell ⟨w.heap.size + 1, 10, none⟩ (.slice xa k xc)) w.heap.size (.slice xa k xc) l ∧ (∀ q, Value.ownBlock (.slice va n vc) = some q → ∀ q', Value.ownBlock (.slice xa k xc) = some q' → q ≠ q') ∧ Below w.heap.size w (((((((((((u2.setCell ⟨w.heap.size + 1, 0, none⟩ (.int .i64 id)).setCell ⟨w.heap.size + 1, 1, none⟩ (.string key)).setCell ⟨w.heap.size + 1, 2, none⟩ (.bool bk)).setCell ⟨w.heap.size + 1, 3, none⟩ (.bool ot)).setCell ⟨w.heap.size + 1, 4, none⟩ (.int .i64 du)).setCell ⟨w.heap.size + 1, 5, none⟩ (.bool dm)).setCell ⟨w.heap.size + 1, 6, none⟩ (.string m)).setCell ⟨w.heap.size + 1, 7, none⟩ (.string h)).setCell ⟨w.heap.size + 1, 8, none⟩ (.string p)).setCell ⟨w.heap.size + 1, 9, none⟩ (.slice va n vc)).setCell ⟨w.heap.size + 1, 10, none⟩ (.slice xa k xc))) := by
    have hr := row_below HRV.out.1 BB.out
    have hx := HX.out
    have h2 := HRV.out.2
    have hov := HO.out
    have b4 := (K0.out u2 (BV.out.trans (BB.out.mono BV.out.size))).1
    have hn1 : ∀ q, Value.ownBlock (.slice va n vc) = some q → q ≠ w.heap.size + 1 := fun q hq => by have := (World.ownsRow.lt HRV.out.1 q hq).1; omega
    have hn2 : ∀ q, Value.ownBlock (.slice xa k xc) = some q → q ≠ w.heap.size + 1 := fun q hq => by have := (World.ownsRow.lt hx q hq).1; omega
    refine ⟨row_lower (row_neF (row_neF (row_neF (row_neF (row_neF (row_neF (row_neF (row_neF (row_neF (row_neF (row_neF hr _ hn1) _ hn1) _ hn1) _ hn1) _ hn1) _ hn1) _ hn1) _ hn1) _ hn1) _ hn1) _ hn1) (by omega), row_lower (row_neF (row_neF (row_neF (row_neF (row_neF (row_neF (row_neF (row_neF (row_neF (row_neF (row_neF hx _ hn2) _ hn2) _ hn2) _ hn2) _ hn2) _ hn2) _ hn2) _ hn2) _ hn2) _ hn2) _ hn2) (by omega), fun q hq q' hq' => ?_, ((((((((((b4.setCell (by simp) _).setCell (by simp) _).setCell (by simp) _).setCell (by simp) _).setCell (by simp) _).setCell (by simp) _).setCell (by simp) _).setCell (by simp) _).setCell (by simp) _).setCell (by simp) _).setCell (by simp) _⟩
    have a1 := h2 q hq
    have a2 := (World.ownsRow.lt hx q' hq').1
    omega
  go_wp2_with fail
  exact bodyPost_ret (v := .agg #[.int .i64 id, .string key, .bool bk, .bool ot, .int .i64 du, .bool dm, .string m, .string h, .string p, .slice va n vc, .slice xa k xc]) (by simp [results, Tryz.results85, go_sem, z0, z1, z2, z3, z4, z5, z6, z7, z8, z9, z10]) rfl ⟨⟨va, vc, xa, xc, rfl, HF.out.1, HF.out.2.1, HF.out.2.2.1⟩, HF.out.2.2.2⟩
end Go.Proofs.YtacninhhkbglaaaGreatDoor
/-
  JoinFlight, by the model and by the program.
-/
namespace Go.Proofs.YtacninhhkbglaaaGreatDoor
open Go.ChangeShapes Go.WideShapes Go.ChangeAt Go.RowKit Go.Sort
set_option maxRecDepth 100000 in
set_option maxHeartbeats 16000000 in
theorem specJoinF_any (w : World) (x : Fl) (r : FlR) (y : Wr) (room : Int) (hf : FlFit x) (hi : FlIn w x r) :
    Calls Tryz.prog 25 #[.agg #[.int .i64 x.id, .string x.key, .bool x.bk, .bool x.ot, .int .i64 x.du, .bool x.dm, .string x.m, .string x.h, .string x.p, .slice r.ha x.hs.length r.hc, .slice r.wa x.ws.length r.wc], .agg #[.int .i64 y.rq, .bool y.hd, .int .i64 y.du, .bool y.lt], .int .i64 room] w fun e w' => JnRes x y room w w' e ∧ Below w.heap.size w w' := by
  obtain ⟨W, hW⟩ : ∃ W, W = ((w.alloc (.cells #[.int .i64 x.id, .string x.key, .bool x.bk, .bool x.ot, .int .i64 x.du, .bool x.dm, .string x.m, .string x.h, .string x.p, .slice r.ha x.hs.length r.hc, .slice r.wa x.ws.length r.wc] 86)).alloc (.cells #[.int .i64 y.rq, .bool y.hd, .int .i64 y.du, .bool y.lt] 91)).alloc (.cells #[.int .i64 0, .int .i64 0, .string ⟨#[]⟩, .bool false, .bool false, .int .i64 0, .bool false, .string ⟨#[]⟩, .string ⟨#[]⟩, .string ⟨#[]⟩, .slice none 0 0, .slice none 0 0] 88) := ⟨_, rfl⟩
  have HW : Hid (W = ((w.alloc (.cells #[.int .i64 x.id, .string x.key, .bool x.bk, .bool x.ot, .int .i64 x.du, .bool x.dm, .string x.m, .string x.h, .string x.p, .slice r.ha x.hs.length r.hc, .slice r.wa x.ws.length r.wc] 86)).alloc (.cells #[.int .i64 y.rq, .bool y.hd, .int .i64 y.du, .bool y.lt] 91)).alloc (.cells #[.int .i64 0, .int .i64 0, .string ⟨#[]⟩, .bool false, .bool false, .int .i64 0, .bool false, .string ⟨#[]⟩, .string ⟨#[]⟩, .string ⟨#[]⟩, .slice none 0 0, .slice none 0 0] 88)) := hW
  have KW := hidL (show Below w.heap.size w W by rw [hW]; exact (((Below.refl _ _).alloc (Nat.le_refl _) _).alloc (by simp) _).alloc (by simp; omega) _)
  have FB := hidL (show At w.heap.size (w.heap.size + 1) (Bx w.heap.size [.int .i64 x.id, .string x.key, .bool x.bk, .bool x.ot, .int .i64 x.du, .bool x.dm, .string x.m, .string x.h, .string x.p, .slice r.ha x.hs.length r.hc, .slice r.wa x.ws.length r.wc]) W by rw [hW]; exact ((Bx.new _ [.int .i64 x.id, .string x.key, .bool x.bk, .bool x.ot, .int .i64 x.du, .bool x.dm, .string x.m, .string x.h, .string x.p, .slice r.ha x.hs.length r.hc, .slice r.wa x.ws.length r.wc] _).al _).al _)
  have FY := hidL (show At (w.heap.size + 1) (w.heap.size + 1 + 1) (Bx (w.heap.size + 1) [.int .i64 y.rq, .bool y.hd, .int .i64 y.du, .bool y.lt]) W by rw [hW]; exact (Bx.newAt (by simp) [.int .i64 y.rq, .bool y.hd, .int .i64 y.du, .bool y.lt] _).al _)
  have FZ := hidL (show At (w.heap.size + 2) (w.heap.size + 2 + 1) (Bx (w.heap.size + 2) [.int .i64 0, .int .i64 0, .string ⟨#[]⟩, .bool false, .bool false, .int .i64 0, .bool false, .string ⟨#[]⟩, .string ⟨#[]⟩, .string ⟨#[]⟩, .slice none 0 0, .slice none 0 0]) W by rw [hW]; exact Bx.newAt (by simp) [.int .i64 0, .int .i64 0, .string ⟨#[]⟩, .bool false, .bool false, .int .i64 0, .bool false, .string ⟨#[]⟩, .string ⟨#[]⟩, .string ⟨#[]⟩, .slice none 0 0, .slice none 0 0] _)
  have SW := hidL (show w.heap.size + 3 ≤ W.heap.size by rw [hW]; simp)
  have CF : Hid (∀ X, Below w.heap.size w X → Calls Tryz.prog 75 #[.agg #[.int .i64 x.id, .string x.key, .bool x.bk, .bool x.ot, .int .i64 x.du, .bool x.dm, .string x.m, .string x.h, .string x.p, .slice r.ha x.hs.length r.hc, .slice r.wa x.ws.length r.wc]] X fun e w' => e = .returned (.int .i64 (flC x)) ∧ Below X.heap.size X w') := fun X hX => specFl_any X x r hf (hi.keep hX)
  have CT : Hid (∀ x w, Calls Tryz.prog 39 #[.int .i64 x] w fun r w' => r = .returned (.bool (timeB x)) ∧ w' = w) := l1Time_all
  have CI : Hid (∀ x lo hi w, Calls Tryz.prog 76 #[.int .i64 x, .int .i64 lo, .int .i64 hi] w fun r w' => r = .returned (.bool (inW lo hi x)) ∧ w' = w) := l1In_all
  have CH : Hid (∀ X, Below w.heap.size w X → Calls Tryz.prog 77 #[.slice r.wa x.ws.length r.wc, .int .i64 y.rq] X fun e w' => e = .returned (.bool (hasR x.ws y.rq)) ∧ w' = X) := fun X hX => l12Waits_any X r.wa r.wc x.ws y.rq hf.w (hi.keep hX).k
  have CC : Hid (∀ X, Below w.heap.size w X → At w.heap.size (w.heap.size + 1) (Bx w.heap.size [.int .i64 x.id, .string x.key, .bool x.bk, .bool x.ot, .int .i64 x.du, .bool x.dm, .string x.m, .string x.h, .string x.p, .slice r.ha x.hs.length r.hc, .slice r.wa x.ws.length r.wc]) X → Calls Tryz.prog 78 #[.pointer (some ⟨w.heap.size, 0, none⟩)] X fun e w' => (∃ va vc ua uc, e = .returned (.agg #[.int .i64 x.id, .string x.key, .bool x.bk, .bool x.ot, .int .i64 x.du, .bool x.dm, .string x.m, .string x.h, .string x.p, .slice va x.hs.length vc, .slice ua x.ws.length uc]) ∧ ∃ m l1 h1, X.heap.size ≤ l1 ∧ l1 ≤ h1 ∧ h1 ≤ m ∧ m ≤ w'.heap.size ∧ At l1 h1 (HL (.slice va x.hs.length vc) x.hs) w' ∧ OwnWr w' m (.slice ua x.ws.length uc) x.ws) ∧ Below X.heap.size X w') := fun X hX hB => l12CopyO_any X w.heap.size x r hf.h hf.w (hi.keep hX) hB
  have N10 : Hid (flC x = 0 → x.ws.length ≤ 10) := fun h => (flC_zero h).2.2.2.2.2.2.1
  obtain ⟨Q, hQ⟩ : ∃ Q : World → Ending → Prop, Q = fun w' e => JnRes x y room w w' e := ⟨_, rfl⟩
  have QB : Hid (∀ w' d, (jnC (flC x) y.rq y.du room x.ws) = d → ¬ d = 0 → w.heap.size ≤ w'.heap.size → Q w' (.returned (.agg #[.int .i64 d, .int .i64 0, .string ⟨#[]⟩, .bool false, .bool false, .int .i64 0, .bool false, .string ⟨#[]⟩, .string ⟨#[]⟩, .string ⟨#[]⟩, .slice none 0 0, .slice none 0 0]))) := fun w' d h1 h2 h3 => by rw [hQ]; exact JnRes.bad h1 h2 h3
  have QG : Hid ((jnC (flC x) y.rq y.du room x.ws) = 0 → ∀ w' ra rn rk wa wn wk, At w.heap.size w'.heap.size (FR x.hs (x.ws ++ [y]) ra rn rk wa wn wk) w' → Q w' (.returned (.agg #[.int .i64 0, .int .i64 x.id, .string x.key, .bool x.bk, .bool x.ot, .int .i64 x.du, .bool x.dm, .string x.m, .string x.h, .string x.p, .slice ra rn rk, .slice wa wn wk]))) := fun h w' ra rn rk wa wn wk k => by rw [hQ]; exact JnRes.good h k
  refine Calls.mono (R := fun e w' => Q w' e ∧ Below w.heap.size w w') ?_ (fun e w' h => by rw [hQ] at h; exact h)
  clear hQ hW hi
  have E1 : Hid (¬ flC x = 0 → (jnC (flC x) y.rq y.du room x.ws) = flC x) := jnC_fl
  have E2 : Hid (flC x = 0 → (timeB y.rq = false ∨ timeB y.du = false ∨ inW 1 10 room = false) → (jnC (flC x) y.rq y.du room x.ws) = 3) := fun h k => by
    rcases k with k | k | k
    · exact jnC_t1 h k
    · exact jnC_t2 h k
    · exact jnC_t3 h k
  have E4 : Hid (flC x = 0 → timeB y.rq = true → timeB y.du = true → inW 1 10 room = true → hasR x.ws y.rq = true → (jnC (flC x) y.rq y.du room x.ws) = 6) := jnC_taken
  have E5 : Hid (flC x = 0 → timeB y.rq = true → timeB y.du = true → inW 1 10 room = true → hasR x.ws y.rq = false → room ≤ (x.ws.length : Int) → (jnC (flC x) y.rq y.du room x.ws) = 7) := jnC_full
  have E6 : Hid (flC x = 0 → timeB y.rq = true → timeB y.du = true → inW 1 10 room = true → hasR x.ws y.rq = false → ¬ room ≤ (x.ws.length : Int) → (jnC (flC x) y.rq y.du room x.ws) = 0) := jnC_ok
  have hwl := hf.w
  clear hf
  have HLA := hidL (show (x.ws ++ [y]).length = x.ws.length + 1 by simp)
  obtain ⟨k, hk⟩ : ∃ k, x.ws.length = k := ⟨_, rfl⟩
  have HK : Hid (x.ws.length = k) := hk
  obtain ⟨n, hn⟩ : ∃ n, x.hs.length = n := ⟨_, rfl⟩
  have HN : Hid (x.hs.length = n) := hn
  rw [hk] at hwl N10 CH E5 E6 HLA
  rw [hk, hn] at HW FB CF CC ⊢
  clear hk hn
  generalize (jnC (flC x) y.rq y.du room x.ws) = ec at *
  generalize flC x = fc at *
  generalize hasR x.ws y.rq = hr at *
  obtain ⟨y0, y1, y2, y3⟩ := y
  simp only at HW FY CH E2 E4 E5 E6 QG ⊢
  go_enter Tryz.func25, Tryz.ntmps25
  go_upto_region 1 with fail
  rw [← HW.out]
  clear HW
  have LB := hidL FB.out.val.1
  go_wp2_with (first | ((with_reducible refine flI_load (b := w.heap.size) (vs := [.int .i64 x.id, .string x.key, .bool x.bk, .bool x.ot, .int .i64 x.du, .bool x.dm, .string x.m, .string x.h, .string x.p, .slice r.ha n r.hc, .slice r.wa k r.wc]) ?_ ?_ LB.out ?_); exact rfl; exact rfl))
  refine (CF.out W KW.out).mono ?_
  rintro e w1 ⟨rfl, hb⟩
  have s0 := Nat.le_trans SW.out hb.size
  have K1 := hidL (KW.out.trans (hb.mono KW.out.size))
  replace FB := hidL (FB.out.keep hb)
  replace FY := hidL (FY.out.keep hb)
  replace FZ := hidL (FZ.out.keep hb)
  clear hb LB KW CF SW
  by_cases c0 : fc = 0
  · subst c0
    have LZ := hidL FZ.out.val.1
    have LZf := hidL FZ.out.val.2
    have q0 := FY.out.val.1 0 _ rfl
    have q1 := FY.out.val.1 1 _ rfl
    have q2 := FY.out.val.1 2 _ rfl
    have q3 := FY.out.val.1 3 _ rfl
    go_wp2_with fail
    refine (CT.out y0 _).mono ?_
    rintro r0 v0 ⟨rfl, rfl⟩
    cases h1 : timeB y0
    · go_wp2_with (first | ((with_reducible refine flR_put (b := w.heap.size + 2) (zs := [.int .i64 0, .int .i64 0, .string ⟨#[]⟩, .bool false, .bool false, .int .i64 0, .bool false, .string ⟨#[]⟩, .string ⟨#[]⟩, .string ⟨#[]⟩, .slice none 0 0, .slice none 0 0]) (vs := [.int .i64 3, .int .i64 0, .string ⟨#[]⟩, .bool false, .bool false, .int .i64 0, .bool false, .string ⟨#[]⟩, .string ⟨#[]⟩, .string ⟨#[]⟩, .slice none 0 0, .slice none 0 0]) ?_ ?_ ?_ ?_ ?_ LZ.out LZf.out ?_); exact rfl; exact rfl; exact rfl; exact rfl; exact rfl))
      obtain ⟨VF, hVF⟩ : ∃ V, V = putAll v0 (w.heap.size + 2) 0 [.int .i64 3, .int .i64 0, .string ⟨#[]⟩, .bool false, .bool false, .int .i64 0, .bool false, .string ⟨#[]⟩, .string ⟨#[]⟩, .string ⟨#[]⟩, .slice none 0 0, .slice none 0 0] := ⟨_, rfl⟩
      rw [← hVF]
      have R : At (w.heap.size + 2) (w.heap.size + 2 + 1) (Bx (w.heap.size + 2) [.int .i64 3, .int .i64 0, .string ⟨#[]⟩, .bool false, .bool false, .int .i64 0, .bool false, .string ⟨#[]⟩, .string ⟨#[]⟩, .string ⟨#[]⟩, .slice none 0 0, .slice none 0 0]) VF := by rw [hVF]; exact Bx.putAll FZ.out [.int .i64 3, .int .i64 0, .string ⟨#[]⟩, .bool false, .bool false, .int .i64 0, .bool false, .string ⟨#[]⟩, .string ⟨#[]⟩, .string ⟨#[]⟩, .slice none 0 0, .slice none 0 0] rfl
      have KF : Below w.heap.size w VF := by rw [hVF]; exact below_putAll (by omega) [.int .i64 3, .int .i64 0, .string ⟨#[]⟩, .bool false, .bool false, .int .i64 0, .bool false, .string ⟨#[]⟩, .string ⟨#[]⟩, .string ⟨#[]⟩, .slice none 0 0, .slice none 0 0] 0 K1.out
      clear hVF
      refine bodyPost_ret (v := .agg #[.int .i64 3, .int .i64 0, .string ⟨#[]⟩, .bool false, .bool false, .int .i64 0, .bool false, .string ⟨#[]⟩, .string ⟨#[]⟩, .string ⟨#[]⟩, .slice none 0 0, .slice none 0 0]) ?_ rfl ⟨QB.out VF 3 (E2.out (by simp) (.inl h1)) (by decide) KF.size, KF⟩
      exact results_bx rfl Tryz.underlying88 flR_size rfl R.val.1
    go_wp2_with fail
    refine (CT.out y2 _).mono ?_
    rintro r1 v1 ⟨rfl, rfl⟩
    cases h2 : timeB y2
    · go_wp2_with (first | ((with_reducible refine flR_put (b := w.heap.size + 2) (zs := [.int .i64 0, .int .i64 0, .string ⟨#[]⟩, .bool false, .bool false, .int .i64 0, .bool false, .string ⟨#[]⟩, .string ⟨#[]⟩, .string ⟨#[]⟩, .slice none 0 0, .slice none 0 0]) (vs := [.int .i64 3, .int .i64 0, .string ⟨#[]⟩, .bool false, .bool false, .int .i64 0, .bool false, .string ⟨#[]⟩, .string ⟨#[]⟩, .string ⟨#[]⟩, .slice none 0 0, .slice none 0 0]) ?_ ?_ ?_ ?_ ?_ LZ.out LZf.out ?_); exact rfl; exact rfl; exact rfl; exact rfl; exact rfl))
      obtain ⟨VF, hVF⟩ : ∃ V, V = putAll v1 (w.heap.size + 2) 0 [.int .i64 3, .int .i64 0, .string ⟨#[]⟩, .bool false, .bool false, .int .i64 0, .bool false, .string ⟨#[]⟩, .string ⟨#[]⟩, .string ⟨#[]⟩, .slice none 0 0, .slice none 0 0] := ⟨_, rfl⟩
      rw [← hVF]
      have R : At (w.heap.size + 2) (w.heap.size + 2 + 1) (Bx (w.heap.size + 2) [.int .i64 3, .int .i64 0, .string ⟨#[]⟩, .bool false, .bool false, .int .i64 0, .bool false, .string ⟨#[]⟩, .string ⟨#[]⟩, .string ⟨#[]⟩, .slice none 0 0, .slice none 0 0]) VF := by rw [hVF]; exact Bx.putAll FZ.out [.int .i64 3, .int .i64 0, .string ⟨#[]⟩, .bool false, .bool false, .int .i64 0, .bool false, .string ⟨#[]⟩, .string ⟨#[]⟩, .string ⟨#[]⟩, .slice none 0 0, .slice none 0 0] rfl
      have KF : Below w.heap.size w VF := by rw [hVF]; exact below_putAll (by omega) [.int .i64 3, .int .i64 0, .string ⟨#[]⟩, .bool false, .bool false, .int .i64 0, .bool false, .string ⟨#[]⟩, .string ⟨#[]⟩, .string ⟨#[]⟩, .slice none 0 0, .slice none 0 0] 0 K1.out
      clear hVF
      refine bodyPost_ret (v := .agg #[.int .i64 3, .int .i64 0, .string ⟨#[]⟩, .bool false, .bool false, .int .i64 0, .bool false, .string ⟨#[]⟩, .string ⟨#[]⟩, .string ⟨#[]⟩, .slice none 0 0, .slice none 0 0]) ?_ rfl ⟨QB.out VF 3 (E2.out (by simp) (.inr (.inl h2))) (by decide) KF.size, KF⟩
      exact results_bx rfl Tryz.underlying88 flR_size rfl R.val.1
    go_wp2_with fail
    refine (CI.out room 1 10 _).mono ?_
    rintro r2 v2 ⟨rfl, rfl⟩
    cases h3 : inW 1 10 room
    · go_wp2_with (first | ((with_reducible refine flR_put (b := w.heap.size + 2) (zs := [.int .i64 0, .int .i64 0, .string ⟨#[]⟩, .bool false, .bool false, .int .i64 0, .bool false, .string ⟨#[]⟩, .string ⟨#[]⟩, .string ⟨#[]⟩, .slice none 0 0, .slice none 0 0]) (vs := [.int .i64 3, .int .i64 0, .string ⟨#[]⟩, .bool false, .bool false, .int .i64 0, .bool false, .string ⟨#[]⟩, .string ⟨#[]⟩, .string ⟨#[]⟩, .slice none 0 0, .slice none 0 0]) ?_ ?_ ?_ ?_ ?_ LZ.out LZf.out ?_); exact rfl; exact rfl; exact rfl; exact rfl; exact rfl))
      obtain ⟨VF, hVF⟩ : ∃ V, V = putAll v2 (w.heap.size + 2) 0 [.int .i64 3, .int .i64 0, .string ⟨#[]⟩, .bool false, .bool false, .int .i64 0, .bool false, .string ⟨#[]⟩, .string ⟨#[]⟩, .string ⟨#[]⟩, .slice none 0 0, .slice none 0 0] := ⟨_, rfl⟩
      rw [← hVF]
      have R : At (w.heap.size + 2) (w.heap.size + 2 + 1) (Bx (w.heap.size + 2) [.int .i64 3, .int .i64 0, .string ⟨#[]⟩, .bool false, .bool false, .int .i64 0, .bool false, .string ⟨#[]⟩, .string ⟨#[]⟩, .string ⟨#[]⟩, .slice none 0 0, .slice none 0 0]) VF := by rw [hVF]; exact Bx.putAll FZ.out [.int .i64 3, .int .i64 0, .string ⟨#[]⟩, .bool false, .bool false, .int .i64 0, .bool false, .string ⟨#[]⟩, .string ⟨#[]⟩, .string ⟨#[]⟩, .slice none 0 0, .slice none 0 0] rfl
      have KF : Below w.heap.size w VF := by rw [hVF]; exact below_putAll (by omega) [.int .i64 3, .int .i64 0, .string ⟨#[]⟩, .bool false, .bool false, .int .i64 0, .bool false, .string ⟨#[]⟩, .string ⟨#[]⟩, .string ⟨#[]⟩, .slice none 0 0, .slice none 0 0] 0 K1.out
      clear hVF
      refine bodyPost_ret (v := .agg #[.int .i64 3, .int .i64 0, .string ⟨#[]⟩, .bool false, .bool false, .int .i64 0, .bool false, .string ⟨#[]⟩, .string ⟨#[]⟩, .string ⟨#[]⟩, .slice none 0 0, .slice none 0 0]) ?_ rfl ⟨QB.out VF 3 (E2.out (by simp) (.inr (.inr h3))) (by decide) KF.size, KF⟩
      exact results_bx rfl Tryz.underlying88 flR_size rfl R.val.1
    have p10 := FB.out.val.1 10 _ rfl
    go_wp2_with fail
    refine (CH.out _ K1.out).mono ?_
    rintro r3 v3 ⟨rfl, rfl⟩
    cases h4 : hr
    rotate_left
    · go_wp2_with (first | ((with_reducible refine flR_put (b := w.heap.size + 2) (zs := [.int .i64 0, .int .i64 0, .string ⟨#[]⟩, .bool false, .bool false, .int .i64 0, .bool false, .string ⟨#[]⟩, .string ⟨#[]⟩, .string ⟨#[]⟩, .slice none 0 0, .slice none 0 0]) (vs := [.int .i64 6, .int .i64 0, .string ⟨#[]⟩, .bool false, .bool false, .int .i64 0, .bool false, .string ⟨#[]⟩, .string ⟨#[]⟩, .string ⟨#[]⟩, .slice none 0 0, .slice none 0 0]) ?_ ?_ ?_ ?_ ?_ LZ.out LZf.out ?_); exact rfl; exact rfl; exact rfl; exact rfl; exact rfl))
      obtain ⟨VF, hVF⟩ : ∃ V, V = putAll v3 (w.heap.size + 2) 0 [.int .i64 6, .int .i64 0, .string ⟨#[]⟩, .bool false, .bool false, .int .i64 0, .bool false, .string ⟨#[]⟩, .string ⟨#[]⟩, .string ⟨#[]⟩, .slice none 0 0, .slice none 0 0] := ⟨_, rfl⟩
      rw [← hVF]
      have R : At (w.heap.size + 2) (w.heap.size + 2 + 1) (Bx (w.heap.size + 2) [.int .i64 6, .int .i64 0, .string ⟨#[]⟩, .bool false, .bool false, .int .i64 0, .bool false, .string ⟨#[]⟩, .string ⟨#[]⟩, .string ⟨#[]⟩, .slice none 0 0, .slice none 0 0]) VF := by rw [hVF]; exact Bx.putAll FZ.out [.int .i64 6, .int .i64 0, .string ⟨#[]⟩, .bool false, .bool false, .int .i64 0, .bool false, .string ⟨#[]⟩, .string ⟨#[]⟩, .string ⟨#[]⟩, .slice none 0 0, .slice none 0 0] rfl
      have KF : Below w.heap.size w VF := by rw [hVF]; exact below_putAll (by omega) [.int .i64 6, .int .i64 0, .string ⟨#[]⟩, .bool false, .bool false, .int .i64 0, .bool false, .string ⟨#[]⟩, .string ⟨#[]⟩, .string ⟨#[]⟩, .slice none 0 0, .slice none 0 0] 0 K1.out
      clear hVF
      refine bodyPost_ret (v := .agg #[.int .i64 6, .int .i64 0, .string ⟨#[]⟩, .bool false, .bool false, .int .i64 0, .bool false, .string ⟨#[]⟩, .string ⟨#[]⟩, .string ⟨#[]⟩, .slice none 0 0, .slice none 0 0]) ?_ rfl ⟨QB.out VF 6 (E4.out (by simp) h1 h2 h3 h4) (by decide) KF.size, KF⟩
      exact results_bx rfl Tryz.underlying88 flR_size rfl R.val.1
    by_cases h5 : room ≤ (k : Int)
    · go_wp2_with (first | ((with_reducible refine flR_put (b := w.heap.size + 2) (zs := [.int .i64 0, .int .i64 0, .string ⟨#[]⟩, .bool false, .bool false, .int .i64 0, .bool false, .string ⟨#[]⟩, .string ⟨#[]⟩, .string ⟨#[]⟩, .slice none 0 0, .slice none 0 0]) (vs := [.int .i64 7, .int .i64 0, .string ⟨#[]⟩, .bool false, .bool false, .int .i64 0, .bool false, .string ⟨#[]⟩, .string ⟨#[]⟩, .string ⟨#[]⟩, .slice none 0 0, .slice none 0 0]) ?_ ?_ ?_ ?_ ?_ LZ.out LZf.out ?_); exact rfl; exact rfl; exact rfl; exact rfl; exact rfl))
      obtain ⟨VF, hVF⟩ : ∃ V, V = putAll v3 (w.heap.size + 2) 0 [.int .i64 7, .int .i64 0, .string ⟨#[]⟩, .bool false, .bool false, .int .i64 0, .bool false, .string ⟨#[]⟩, .string ⟨#[]⟩, .string ⟨#[]⟩, .slice none 0 0, .slice none 0 0] := ⟨_, rfl⟩
      rw [← hVF]
      have R : At (w.heap.size + 2) (w.heap.size + 2 + 1) (Bx (w.heap.size + 2) [.int .i64 7, .int .i64 0, .string ⟨#[]⟩, .bool false, .bool false, .int .i64 0, .bool false, .string ⟨#[]⟩, .string ⟨#[]⟩, .string ⟨#[]⟩, .slice none 0 0, .slice none 0 0]) VF := by rw [hVF]; exact Bx.putAll FZ.out [.int .i64 7, .int .i64 0, .string ⟨#[]⟩, .bool false, .bool false, .int .i64 0, .bool false, .string ⟨#[]⟩, .string ⟨#[]⟩, .string ⟨#[]⟩, .slice none 0 0, .slice none 0 0] rfl
      have KF : Below w.heap.size w VF := by rw [hVF]; exact below_putAll (by omega) [.int .i64 7, .int .i64 0, .string ⟨#[]⟩, .bool false, .bool false, .int .i64 0, .bool false, .string ⟨#[]⟩, .string ⟨#[]⟩, .string ⟨#[]⟩, .slice none 0 0, .slice none 0 0] 0 K1.out
      clear hVF
      refine bodyPost_ret (v := .agg #[.int .i64 7, .int .i64 0, .string ⟨#[]⟩, .bool false, .bool false, .int .i64 0, .bool false, .string ⟨#[]⟩, .string ⟨#[]⟩, .string ⟨#[]⟩, .slice none 0 0, .slice none 0 0]) ?_ rfl ⟨QB.out VF 7 (E5.out (by simp) h1 h2 h3 h4 h5) (by decide) KF.size, KF⟩
      exact results_bx rfl Tryz.underlying88 flR_size rfl R.val.1
    have h10 := N10.out (by simp)
    have EC := hidL (E6.out (by simp) h1 h2 h3 h4 (by omega))
    replace QG := hidL (QG.out EC.out)
    clear h1 h2 h3 h4 E1 E2 E4 E5 E6 QB N10 CT CI CH
    go_wp2_with fail
    refine (CC.out _ K1.out FB.out).mono ?_
    rintro e w2 ⟨⟨va, vc, ua, uc, rfl, m, l1, h1, i1, i2, i3, i4, a1, ow⟩, hb⟩
    obtain ⟨V, hV⟩ : ∃ V, V = w2.alloc (.cells #[.int .i64 x.id, .string x.key, .bool x.bk, .bool x.ot, .int .i64 x.du, .bool x.dm, .string x.m, .string x.h, .string x.p, .slice va n vc, .slice ua k uc] 86) := ⟨_, rfl⟩
    have HV : Hid (V = w2.alloc (.cells #[.int .i64 x.id, .string x.key, .bool x.bk, .bool x.ot, .int .i64 x.du, .bool x.dm, .string x.m, .string x.h, .string x.p, .slice va n vc, .slice ua k uc] 86)) := hV
    have aV : Below w2.heap.size w2 V := by rw [hV]; exact (Below.refl _ _).alloc (Nat.le_refl _) _
    have s1 := hb.size
    have sV : w2.heap.size + 1 ≤ V.heap.size := by rw [hV]; simp
    have KV := hidL ((K1.out.trans (hb.mono K1.out.size)).trans (aV.mono (Nat.le_trans K1.out.size hb.size)))
    obtain ⟨O, hO⟩ : ∃ O, w2.heap.size = O := ⟨_, rfl⟩
    have FO := hidL (show At O (O + 1) (Bx O [.int .i64 x.id, .string x.key, .bool x.bk, .bool x.ot, .int .i64 x.du, .bool x.dm, .string x.m, .string x.h, .string x.p, .slice va n vc, .slice ua k uc]) V by rw [hV, ← hO]; exact Bx.new _ [.int .i64 x.id, .string x.key, .bool x.bk, .bool x.ot, .int .i64 x.du, .bool x.dm, .string x.m, .string x.h, .string x.p, .slice va n vc, .slice ua k uc] _)
    replace FZ := hidL ((FZ.out.keep hb).keep aV)
    replace FY := hidL ((FY.out.keep hb).keep aV)
    have A1 := hidL (a1.keep aV)
    have OWV := hidL (ow.below aV)
    have OBL := hidL (show ∀ q, Value.ownBlock (.slice ua k uc) = some q → m ≤ q ∧ q < O from fun q hq => by have := World.ownsRow.lt ow q hq; have := row_ge ow q hq; omega)
    have OO := hidL (show v3.heap.size ≤ l1 ∧ l1 ≤ h1 ∧ h1 ≤ m ∧ m ≤ O from ⟨i1, i2, i3, by omega⟩)
    rw [hO] at s1 sV
    clear i1 i2 i3 i4 hb aV hV CC FB LZ LZf K1 a1 ow p10 q0 q1 q2 q3
    go_upto_region 11 with (first | ((with_reducible refine flI_store (c' := #[.int .i64 x.id, .string x.key, .bool x.bk, .bool x.ot, .int .i64 x.du, .bool x.dm, .string x.m, .string x.h, .string x.p, .slice va n vc, .slice ua k uc]) ?_ ?_ ?_ ?_ ?_ ?_); exact rfl; exact rfl; exact rfl; exact rfl; exact rfl))
    rw [← HV.out]
    clear HV
    try rw [hO]
    have q0 := FY.out.val.1 0 _ rfl
    have q1 := FY.out.val.1 1 _ rfl
    have q2 := FY.out.val.1 2 _ rfl
    have q3 := FY.out.val.1 3 _ rfl
    have o10 := FO.out.val.1 10 _ rfl
    go_upto_region 12 with (at_builtin; refine wpList_appendGWr V rfl (.tmp 48) (.tmp 50) rfl m (.slice ua k uc) x.ws ⟨y0, y1, y2, y3⟩ rfl rfl OWV.out (by have := HK.out; omega) (by have := OO.out; omega) ?_; intro g cap w3 ow3 gr3 gg3; have FO3 := hidL (FO.out.gbO gr3 (fun q hq => by have := OBL.out q hq; omega)); have o10b := FO3.out.val.1 10 _ rfl; have of10 := FO3.out.val.2 10)
    have GB3 := hidL gr3
    have OW3 := hidL ow3
    rw [HK.out]
    obtain ⟨T, hT⟩ : ∃ T, T = w3.setCell ⟨O, 10, none⟩ (.slice (some ⟨g, 0, none⟩) (k + 1) cap) := ⟨_, rfl⟩
    have HT : Hid (T = w3.setCell ⟨O, 10, none⟩ (.slice (some ⟨g, 0, none⟩) (k + 1) cap)) := hT
    rw [← HT.out]
    have hgm : m ≤ g ∧ g ≠ O := by
      rcases gg3 with q | q
      · have := OBL.out g q; omega
      · have := OO.out; omega
    have sT : T.heap.size = w3.heap.size := by rw [hT]; simp
    have s3 := GB3.out.size
    have FOT := hidL (show At O (O + 1) (Bx O [.int .i64 x.id, .string x.key, .bool x.bk, .bool x.ot, .int .i64 x.du, .bool x.dm, .string x.m, .string x.h, .string x.p, .slice va n vc, .slice (some ⟨g, 0, none⟩) (k + 1) cap]) T by rw [hT]; exact Bx.put FO3.out 10 _ (by simp))
    have KT := hidL (show Below w.heap.size w T by rw [hT]; exact (KV.out.trans (gbToO GB3.out (fun q hq => by have := OBL.out q hq; have := OO.out; omega) (by omega))).setCell (by simp only; omega) _)
    have FZT := hidL (show At (w.heap.size + 2) (w.heap.size + 2 + 1) (Bx (w.heap.size + 2) [.int .i64 0, .int .i64 0, .string ⟨#[]⟩, .bool false, .bool false, .int .i64 0, .bool false, .string ⟨#[]⟩, .string ⟨#[]⟩, .string ⟨#[]⟩, .slice none 0 0, .slice none 0 0]) T by rw [hT]; exact (FZ.out.gbO GB3.out (fun q hq => by have := OBL.out q hq; have := OO.out; omega)).set _ (by omega))
    have AT1 := hidL (show At l1 h1 (HL (.slice va n vc) x.hs) T by rw [hT]; exact (A1.out.gbO GB3.out (fun q hq => by have := OBL.out q hq; have := OO.out; omega)).set _ (by have := OO.out; omega))
    have OWT := hidL (show OwnWr T m (.slice (some ⟨g, 0, none⟩) (k + 1) cap) (x.ws ++ [⟨y0, y1, y2, y3⟩]) by rw [hT]; have := OW3.out; rw [HK.out] at this; exact ownsRow_setCell_other this (by simp only [Value.ownBlock]; intro e; exact hgm.2 (Option.some.inj e)) _)
    have AT2 := hidL (OwnWr.wl OWT.out (b := w.heap.size) (by have := OO.out; omega) (by omega))
    have ST2 := hidL (row_stretch OWT.out (b := w.heap.size) (by have := OO.out; omega) (by omega))
    have SD2 := hidL (show m ≤ sLo (.slice (some ⟨g, 0, none⟩) (k + 1) cap) w.heap.size from hgm.1)
    clear hT HT gr3 ow3 gg3 GB3 OW3 FO3 o10 o10b of10 KV FZ FY A1 OWV OBL FO OWT q0 q1 q2 q3
    replace FZ := FZT
    have LZ := hidL FZ.out.val.1
    have LZf := hidL FZ.out.val.2
    have LO := hidL FOT.out.val.1
    go_wp2_with (first | ((with_reducible refine flI_load (b := O) (vs := [.int .i64 x.id, .string x.key, .bool x.bk, .bool x.ot, .int .i64 x.du, .bool x.dm, .string x.m, .string x.h, .string x.p, .slice va n vc, .slice (some ⟨g, 0, none⟩) (k + 1) cap]) ?_ ?_ LO.out ?_); exact rfl; exact rfl) | ((with_reducible refine flR_put (b := w.heap.size + 2) (zs := [.int .i64 0, .int .i64 0, .string ⟨#[]⟩, .bool false, .bool false, .int .i64 0, .bool false, .string ⟨#[]⟩, .string ⟨#[]⟩, .string ⟨#[]⟩, .slice none 0 0, .slice none 0 0]) (vs := [.int .i64 0, .int .i64 x.id, .string x.key, .bool x.bk, .bool x.ot, .int .i64 x.du, .bool x.dm, .string x.m, .string x.h, .string x.p, .slice va n vc, .slice (some ⟨g, 0, none⟩) (k + 1) cap]) ?_ ?_ ?_ ?_ ?_ LZ.out LZf.out ?_); exact rfl; exact rfl; exact rfl; exact rfl; exact rfl))
    obtain ⟨VF, hVF⟩ : ∃ V, V = putAll T (w.heap.size + 2) 0 [.int .i64 0, .int .i64 x.id, .string x.key, .bool x.bk, .bool x.ot, .int .i64 x.du, .bool x.dm, .string x.m, .string x.h, .string x.p, .slice va n vc, .slice (some ⟨g, 0, none⟩) (k + 1) cap] := ⟨_, rfl⟩
    rw [← hVF]
    have R : At (w.heap.size + 2) (w.heap.size + 2 + 1) (Bx (w.heap.size + 2) [.int .i64 0, .int .i64 x.id, .string x.key, .bool x.bk, .bool x.ot, .int .i64 x.du, .bool x.dm, .string x.m, .string x.h, .string x.p, .slice va n vc, .slice (some ⟨g, 0, none⟩) (k + 1) cap]) VF := by rw [hVF]; exact Bx.putAll FZ.out [.int .i64 0, .int .i64 x.id, .string x.key, .bool x.bk, .bool x.ot, .int .i64 x.du, .bool x.dm, .string x.m, .string x.h, .string x.p, .slice va n vc, .slice (some ⟨g, 0, none⟩) (k + 1) cap] rfl
    have KF : Below w.heap.size w VF := by rw [hVF]; exact below_putAll (by omega) [.int .i64 0, .int .i64 x.id, .string x.key, .bool x.bk, .bool x.ot, .int .i64 x.du, .bool x.dm, .string x.m, .string x.h, .string x.p, .slice va n vc, .slice (some ⟨g, 0, none⟩) (k + 1) cap] 0 KT.out
    have d1 : At l1 h1 (HL (.slice va n vc) x.hs) VF := by rw [hVF]; exact At.putAll (by have := OO.out; omega) [.int .i64 0, .int .i64 x.id, .string x.key, .bool x.bk, .bool x.ot, .int .i64 x.du, .bool x.dm, .string x.m, .string x.h, .string x.p, .slice va n vc, .slice (some ⟨g, 0, none⟩) (k + 1) cap] 0 AT1.out
    have d2 : At (sLo (.slice (some ⟨g, 0, none⟩) (k + 1) cap) w.heap.size) (sHi (.slice (some ⟨g, 0, none⟩) (k + 1) cap) w.heap.size) (WL (.slice (some ⟨g, 0, none⟩) (k + 1) cap) (x.ws ++ [⟨y0, y1, y2, y3⟩])) VF := by rw [hVF]; exact At.putAll (by have := OO.out; have := SD2.out; omega) [.int .i64 0, .int .i64 x.id, .string x.key, .bool x.bk, .bool x.ot, .int .i64 x.du, .bool x.dm, .string x.m, .string x.h, .string x.p, .slice va n vc, .slice (some ⟨g, 0, none⟩) (k + 1) cap] 0 AT2.out
    have i1 := (d1.val.in rfl).1
    have i2 := d2.val.in.1
    have g1 := ST2.out
    have g2 := SD2.out
    have g3 := OO.out
    have z1 := d1.le
    have z2 := d2.le
    clear hVF
    refine bodyPost_ret (v := .agg #[.int .i64 0, .int .i64 x.id, .string x.key, .bool x.bk, .bool x.ot, .int .i64 x.du, .bool x.dm, .string x.m, .string x.h, .string x.p, .slice va n vc, .slice (some ⟨g, 0, none⟩) (k + 1) cap]) ?_ rfl ⟨QG.out VF _ _ _ _ _ _ ⟨Nat.le_refl _, FR.dep _ _ _ _ _ _ _ _ _ _, ⟨i1, i2⟩, _, _, _, _, ⟨by omega, g3.2.1, z1⟩, ⟨g1.1, s_le _ _, z2⟩, .inl (by omega), d1, d2⟩, KF⟩
    exact results_bx rfl Tryz.underlying88 flR_size rfl R.val.1
  · have LZ := hidL FZ.out.val.1
    have LZf := hidL FZ.out.val.2
    go_wp2_with (first | ((with_reducible refine flR_put (b := w.heap.size + 2) (zs := [.int .i64 0, .int .i64 0, .string ⟨#[]⟩, .bool false, .bool false, .int .i64 0, .bool false, .string ⟨#[]⟩, .string ⟨#[]⟩, .string ⟨#[]⟩, .slice none 0 0, .slice none 0 0]) (vs := [.int .i64 fc, .int .i64 0, .string ⟨#[]⟩, .bool false, .bool false, .int .i64 0, .bool false, .string ⟨#[]⟩, .string ⟨#[]⟩, .string ⟨#[]⟩, .slice none 0 0, .slice none 0 0]) ?_ ?_ ?_ ?_ ?_ LZ.out LZf.out ?_); exact rfl; exact rfl; exact rfl; exact rfl; exact rfl))
    obtain ⟨VF, hVF⟩ : ∃ V, V = putAll w1 (w.heap.size + 2) 0 [.int .i64 fc, .int .i64 0, .string ⟨#[]⟩, .bool false, .bool false, .int .i64 0, .bool false, .string ⟨#[]⟩, .string ⟨#[]⟩, .string ⟨#[]⟩, .slice none 0 0, .slice none 0 0] := ⟨_, rfl⟩
    rw [← hVF]
    have R : At (w.heap.size + 2) (w.heap.size + 2 + 1) (Bx (w.heap.size + 2) [.int .i64 fc, .int .i64 0, .string ⟨#[]⟩, .bool false, .bool false, .int .i64 0, .bool false, .string ⟨#[]⟩, .string ⟨#[]⟩, .string ⟨#[]⟩, .slice none 0 0, .slice none 0 0]) VF := by rw [hVF]; exact Bx.putAll FZ.out [.int .i64 fc, .int .i64 0, .string ⟨#[]⟩, .bool false, .bool false, .int .i64 0, .bool false, .string ⟨#[]⟩, .string ⟨#[]⟩, .string ⟨#[]⟩, .slice none 0 0, .slice none 0 0] rfl
    have KF : Below w.heap.size w VF := by rw [hVF]; exact below_putAll (by omega) [.int .i64 fc, .int .i64 0, .string ⟨#[]⟩, .bool false, .bool false, .int .i64 0, .bool false, .string ⟨#[]⟩, .string ⟨#[]⟩, .string ⟨#[]⟩, .slice none 0 0, .slice none 0 0] 0 K1.out
    clear hVF
    refine bodyPost_ret (v := .agg #[.int .i64 fc, .int .i64 0, .string ⟨#[]⟩, .bool false, .bool false, .int .i64 0, .bool false, .string ⟨#[]⟩, .string ⟨#[]⟩, .string ⟨#[]⟩, .slice none 0 0, .slice none 0 0]) ?_ rfl ⟨QB.out VF fc (E1.out c0) c0 KF.size, KF⟩
    exact results_bx rfl Tryz.underlying88 flR_size rfl R.val.1
end Go.Proofs.YtacninhhkbglaaaGreatDoor
/-
  Waiters loaded at once.
-/
namespace Go.Proofs.YtacninhhkbglaaaGreatDoor
open Go.ChangeShapes Go.WideShapes Go.ChangeAt Go.RowKit
theorem wrB_size : (Tryz.prog.info? 91).map (·.size) = some 4 := by kernel_rfl
theorem wrB_load {ops : Array Oper} {rest : List Oper} {s d b : Nat} {ty : TypeId} {pos : String} {af : Array Edge} {Q : Exit → Act → World → Prop} {a : Act} {X : World} {vs : List Value} (hl : vs.length = 4)
    (h1 : a.eval (.tmp s) = .pointer (some ⟨b, 0, none⟩)) (k1 : ∀ i v, vs[i]? = some v → X.cell? ⟨b, i, none⟩ = some v)
    (K : wpList Tryz.prog ops Q rest (a.put (some d) (.agg vs.toArray)) X) :
    wpList Tryz.prog ops Q ({ dst := some d, op := .load 91 (.tmp s), type := ty, pos := pos, after := af, guard := none } :: rest) a X :=
  wpList_loadAll Tryz.underlying91 (by rw [hl]; exact wrB_size) h1 k1 K
theorem wrB_loadW {next : Act → World → Prop} {s d b : Nat} {ty : TypeId} {pos : String} {af : Array Edge} {Q : Exit → Act → World → Prop} {a : Act} {X : World} {vs : List Value} (hl : vs.length = 4)
    (h1 : a.eval (.tmp s) = .pointer (some ⟨b, 0, none⟩)) (k1 : ∀ i v, vs[i]? = some v → X.cell? ⟨b, i, none⟩ = some v)
    (K : next (a.put (some d) (.agg vs.toArray)) X) :
    Oper.wp Tryz.prog { dst := some d, op := .load 91 (.tmp s), type := ty, pos := pos, after := af, guard := none } a X next Q :=
  operwp_loadAll Tryz.underlying91 (by rw [hl]; exact wrB_size) h1 k1 K
theorem wrB_loadG {ops : Array Oper} {rest : List Oper} {s d b : Nat} {ty : TypeId} {pos : String} {af : Array Edge} {gd : Option (Nat × Bool)} {Q : Exit → Act → World → Prop} {a : Act} {X : World} {vs : List Value} (hl : vs.length = 4)
    (h1 : a.eval (.tmp s) = .pointer (some ⟨b, 0, none⟩)) (hw : Region.wanted { dst := some d, op := .load 91 (.tmp s), type := ty, pos := pos, after := af, guard := gd } (yielded ops a.tmps) = true) (k1 : ∀ i v, vs[i]? = some v → X.cell? ⟨b, i, none⟩ = some v)
    (K : wpList Tryz.prog ops Q rest (a.put (some d) (.agg vs.toArray)) X) :
    wpList Tryz.prog ops Q ({ dst := some d, op := .load 91 (.tmp s), type := ty, pos := pos, after := af, guard := gd } :: rest) a X :=
  wpList_loadAllG hw Tryz.underlying91 (by rw [hl]; exact wrB_size) h1 k1 K
theorem wrB_loadAt {ops : Array Oper} {rest : List Oper} {s d b off : Nat} {ty : TypeId} {pos : String} {af : Array Edge} {Q : Exit → Act → World → Prop} {a : Act} {X : World} {vs us : List Value} (hl : us.length = 4)
    (h1 : a.eval (.tmp s) = .pointer (some ⟨b, off, none⟩)) (hu : (vs.drop off).take us.length = us) (k1 : ∀ i v, vs[i]? = some v → X.cell? ⟨b, i, none⟩ = some v)
    (K : wpList Tryz.prog ops Q rest (a.put (some d) (.agg us.toArray)) X) :
    wpList Tryz.prog ops Q ({ dst := some d, op := .load 91 (.tmp s), type := ty, pos := pos, after := af, guard := none } :: rest) a X :=
  wpList_loadSub Tryz.underlying91 (by rw [hl]; exact wrB_size) h1 k1 hu K
theorem wrB_store {next : Act → World → Prop} {s d : Nat} {ty : TypeId} {pos : String} {af : Array Edge} {Q : Exit → Act → World → Prop} {a : Act} {X : World} {c c' : Array Value} (hl : c'.size = 4) (hl2 : c.size = 4) (one : c'.toList.all (·.oneCell') = true)
    (h1 : a.eval (.tmp s) = .pointer (some ⟨X.heap.size, 0, none⟩)) (h2 : a.eval (.tmp d) = .agg c')
    (K : next (a.put none undef) (X.alloc (.cells c' 91))) :
    Oper.wp Tryz.prog { dst := none, op := .store 91 (.tmp s) (.tmp d), type := ty, pos := pos, after := af, guard := none } a (X.alloc (.cells c 91)) next Q :=
  operwp_storeNew (by rw [hl]; exact wrB_size) (by rw [hl, hl2]) (by rw [← Array.all_toList]; exact one) h1 h2 K
theorem wrB_put {ops : Array Oper} {rest : List Oper} {s d : Nat} {ty : TypeId} {pos : String} {af : Array Edge} {Q : Exit → Act → World → Prop} {a : Act} {X : World} {b : Nat} {zs vs : List Value} (hl : vs.length = 4) (hl2 : zs.length = 4) (one : vs.all (·.oneCell') = true)
    (h1 : a.eval (.tmp s) = .pointer (some ⟨b, 0, none⟩)) (h2 : a.eval (.tmp d) = .agg vs.toArray)
    (k2 : ∀ i v, zs[i]? = some v → X.cell? ⟨b, i, none⟩ = some v) (f2 : ∀ o, X.frozen? ⟨b, o, none⟩ = false)
    (K : wpList Tryz.prog ops Q rest (a.put none undef) (putAll X b 0 vs)) :
    wpList Tryz.prog ops Q ({ dst := none, op := .store 91 (.tmp s) (.tmp d), type := ty, pos := pos, after := af, guard := none } :: rest) a X :=
  wpList_storeBox (c' := vs.toArray) (by rw [List.size_toArray, hl]; exact wrB_size) (by rw [List.size_toArray, hl, hl2]) one h1 h2 k2 f2 K
end Go.Proofs.YtacninhhkbglaaaGreatDoor
