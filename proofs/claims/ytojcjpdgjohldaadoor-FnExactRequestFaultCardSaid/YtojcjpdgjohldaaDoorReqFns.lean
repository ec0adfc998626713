/-
  What RequestFault and its model answer.
-/
import Derived.Test.YtojcjpdgjohldaaDoorReqSpec
import Derived.Test.YtojcjpdgjohldaaDoorPathSet
import Derived.Test.YtojcjpdgjohldaaDoorErrCode
import Derived.Test.YtojcjpdgjohldaaDoorHFaultImpl
import Derived.Test.YtojcjpdgjohldaaDoorFields
import Derived.Test.YtojcjpdgjohldaaDoorHJoinImpl
import Derived.Test.YtojcjpdgjohldaaDoorMsgPack
namespace Go.Proofs.YtojcjpdgjohldaaDoor
open Go.ChangeShapes Go.WideShapes Go.ChangeAt Go.RowKit
theorem heads_sizes {l : List Hdr} (h : headsC l = 0) : l.length ≤ 20 ∧ ∀ (i : Nat) r, l[i]? = some r → r.name.size ≤ 64 ∧ r.value.size ≤ 200 := by
  obtain ⟨h1, h2⟩ := headsC_zero h
  refine ⟨h1, fun i r hr => ?_⟩
  obtain ⟨a, b, _⟩ := faultH_zero (h2 i r hr)
  exact ⟨hword_max a, b⟩
theorem lit_ne {m : ByteArray} {l : List UInt8} (h : ¬ m = ⟨l.toArray⟩) : (m.toList == l) = false := by
  rw [beq_eq_false_iff_ne, ByteArray.toList_eq]
  intro e
  apply h
  rw [← e]
theorem anyV_nil {vs : List ByteArray} (h : vs = []) : anyV vs = false := by subst h; rfl
theorem anyV_some {vs : List ByteArray} (h : vs ≠ []) : anyV vs = true := by simpa [anyV] using h
/-- A request, boxed. -/
def rqV (m h p : ByteArray) (a : Option Addr) (n cap : Nat) : Value := .agg #[.string m, .string h, .string p, .slice a n cap]
theorem reqJoin {l : List Hdr} (h : headsC l = 0) : (valsOf hostN l ≠ [] → joinC l ⟨#[72, 111, 115, 116]⟩ = 0) ∧ (valsOf hostN l = [] → joinC l ⟨#[72, 111, 115, 116]⟩ = 4) := by
  have e0 : askC l hostT = 0 := askC_word h hostT_word
  refine ⟨fun hv => ?_, fun hv => ?_⟩
  · exact (join_some e0 (by rw [hostT_low]; exact hv)).1
  · exact (join_none e0 (by rw [hostT_low]; exact hv)).1
set_option maxHeartbeats 4000000 in
theorem specReq_get (w : World) (h p : ByteArray) (a : Option Addr) (cap : Nat) (l : List Hdr) (hl : l.length ≤ 1048576) (hi : HdsIn w a l) :
    Calls Tryd.prog 6 #[.agg #[.string ⟨#[71, 69, 84]⟩, .string h, .string p, .slice a l.length cap]] w fun e w' => e = .returned (.int .i64 (reqC ⟨#[71, 69, 84]⟩ h p l)) ∧ Below w.heap.size w w' := by
  have HM : methS ⟨#[71, 69, 84]⟩ = true := by decide +kernel
  have CH := fun W => l5Host_any h W
  have CP := fun W => l5Path_any p W
  have bW : Below w.heap.size w (w.alloc (.cells #[.string ⟨#[71, 69, 84]⟩, .string h, .string p, .slice a l.length cap] 29)) := (Below.refl _ _).alloc (Nat.le_refl _) _
  cases ch : hostS h
  · have HE : Hid (reqC ⟨#[71, 69, 84]⟩ h p l = 5) := reqC_bad (by simp [lineS, ch])
    simp only [ch] at CH
    have HB : Hid (Below w.heap.size w (w.alloc (.cells #[.string ⟨#[71, 69, 84]⟩, .string h, .string p, .slice a l.length cap] 29))) := bW
    clear bW HM hi ch CP
    go_enter Tryd.func6, Tryd.ntmps6
    go_wp2_with (go_at_call 16; refine (CH _).mono ?_; rintro e w' ⟨rfl, rfl⟩)
    go_ret
    exact ⟨ret_int HE.out.symm, HB.out⟩
  simp only [ch] at CH
  cases cp : pathS p
  · have HE : Hid (reqC ⟨#[71, 69, 84]⟩ h p l = 5) := reqC_bad (by simp [lineS, cp])
    simp only [cp] at CP
    have HB : Hid (Below w.heap.size w (w.alloc (.cells #[.string ⟨#[71, 69, 84]⟩, .string h, .string p, .slice a l.length cap] 29))) := bW
    clear bW HM hi ch cp
    go_enter Tryd.func6, Tryd.ntmps6
    go_wp2_with (first | (go_at_call 16; refine (CH _).mono ?_; rintro e w' ⟨rfl, rfl⟩) | (go_at_call 17; refine (CP _).mono ?_; rintro e w' ⟨rfl, rfl⟩))
    go_ret
    exact ⟨ret_int HE.out.symm, HB.out⟩
  simp only [cp] at CP
  have hls : lineS ⟨#[71, 69, 84]⟩ h p = true := by simp [lineS, HM, ch, cp]
  have HR : Hid (reqC ⟨#[71, 69, 84]⟩ h p l = restC l) := reqC_ok hls
  obtain ⟨W, hW⟩ : ∃ W, W = w.alloc (.cells #[.string ⟨#[71, 69, 84]⟩, .string h, .string p, .slice a l.length cap] 29) := ⟨_, rfl⟩
  have HW : Hid (W = w.alloc (.cells #[.string ⟨#[71, 69, 84]⟩, .string h, .string p, .slice a l.length cap] 29)) := hW
  have hc3 : W.cell? ⟨w.heap.size, 3, none⟩ = some (.slice a l.length cap) := by rw [hW, World.cell?_alloc_mark]; rfl
  rw [← hW] at bW
  have hlt : w.heap.size < W.heap.size := by rw [hW]; simp
  have CF := specHFault_any W a cap l hl (hi.keep bW)
  have HI : Hid (HdsIn w a l) := hi
  have HB : Hid (Below w.heap.size w W) := bW
  clear hi bW hW ch cp hls HM
  go_enter Tryd.func6, Tryd.ntmps6
  go_wp2_with (first | (go_at_call 16; refine (CH _).mono ?_; rintro e w' ⟨rfl, rfl⟩) | (go_at_call 17; refine (CP _).mono ?_; rintro e w' ⟨rfl, rfl⟩))
  rw [← HW.out]
  refine CF.mono ?_
  rintro e w1 ⟨rfl, hb1⟩
  clear CF CH CP HW
  have hc3' : w1.cell? ⟨w.heap.size, 3, none⟩ = some (.slice a l.length cap) := by rw [hb1.cell (p := ⟨w.heap.size, 3, none⟩) hlt]; exact hc3
  have HB1 : Hid (Below w.heap.size w w1) := HB.out.trans (hb1.mono HB.out.size)
  have hlt1 : w.heap.size < w1.heap.size := Nat.lt_of_lt_of_le hlt hb1.size
  clear hb1 hc3 hlt HB
  by_cases c0 : headsC l = 0
  · obtain ⟨s1, s2⟩ := heads_sizes c0
    have CJ := l4Join_any w1 a cap l hostN s1 s2 (by decide) (HI.out.keep HB1.out)
    rw [hostN_low] at CJ
    have HJ : Hid (Calls Tryd.prog 19 #[.slice a l.length cap, .string ⟨#[104, 111, 115, 116]⟩] w1 fun e w' => e = .returned (.tuple #[.string ⟨(hjoinL (valsOf hostN l)).toArray⟩, .bool (anyV (valsOf hostN l))]) ∧ Below w1.heap.size w1 w') := CJ
    have HE1 : Hid (valsOf hostN l ≠ [] → restC l = 6) := fun hv => restC_host c0 hv
    have HE2 : Hid (valsOf hostN l = [] → 20 ≤ l.length → restC l = 2) := fun hv hn => restC_many c0 hv hn
    have HE3 : Hid (valsOf hostN l = [] → ¬ 20 ≤ l.length → restC l = 0) := fun hv hn => restC_ok c0 hv hn
    rw [c0]
    clear c0 s2 CJ HI
    generalize (⟨(hjoinL (valsOf hostN l)).toArray⟩ : ByteArray) = t at *
    go_wp2_with fail
    refine HJ.out.mono ?_
    rintro e w2 ⟨rfl, hb2⟩
    have hc4 : w2.cell? ⟨w.heap.size, 3, none⟩ = some (.slice a l.length cap) := by rw [hb2.cell (p := ⟨w.heap.size, 3, none⟩) hlt1]; exact hc3'
    have HB2 : Hid (Below w.heap.size w w2) := HB1.out.trans (hb2.mono HB1.out.size)
    clear hb2 HJ hc3' hlt1
    by_cases cv : valsOf hostN l = []
    · rw [anyV_nil cv]
      by_cases cn : 20 ≤ l.length
      · have HE : Hid (reqC ⟨#[71, 69, 84]⟩ h p l = 2) := by show _ = _; rw [HR.out]; exact HE2.out cv cn
        have cn' : (20 : Int) ≤ l.length := by omega
        clear HE1 HE2 HE3 HR cv cn
        generalize l.length = n at *
        go_wp2_with fail
        go_ret
        exact ⟨ret_int HE.out.symm, HB2.out⟩
      · have HE : Hid (reqC ⟨#[71, 69, 84]⟩ h p l = 0) := by show _ = _; rw [HR.out]; exact HE3.out cv cn
        have cn' : ¬ (20 : Int) ≤ l.length := by omega
        clear HE1 HE2 HE3 HR cv cn
        generalize l.length = n at *
        go_wp2_with fail
        go_ret
        exact ⟨ret_int HE.out.symm, HB2.out⟩
    · rw [anyV_some cv]
      have HE : Hid (reqC ⟨#[71, 69, 84]⟩ h p l = 6) := by show _ = _; rw [HR.out]; exact HE1.out cv
      clear HE1 HE2 HE3 HR cv
      go_wp2_with fail
      go_ret
      exact ⟨ret_int HE.out.symm, HB2.out⟩
  · have HE : Hid (reqC ⟨#[71, 69, 84]⟩ h p l = headsC l) := by show _ = _; rw [HR.out]; exact restC_heads c0
    clear HR HI
    generalize headsC l = c at *
    go_wp2_with fail
    go_ret
    exact ⟨ret_int HE.out.symm, HB1.out⟩
set_option maxHeartbeats 4000000 in
theorem specReq_head (w : World) (h p : ByteArray) (a : Option Addr) (cap : Nat) (l : List Hdr) (hl : l.length ≤ 1048576) (hi : HdsIn w a l) :
    Calls Tryd.prog 6 #[.agg #[.string ⟨#[72, 69, 65, 68]⟩, .string h, .string p, .slice a l.length cap]] w fun e w' => e = .returned (.int .i64 (reqC ⟨#[72, 69, 65, 68]⟩ h p l)) ∧ Below w.heap.size w w' := by
  have HM : methS ⟨#[72, 69, 65, 68]⟩ = true := by decide +kernel
  have CH := fun W => l5Host_any h W
  have CP := fun W => l5Path_any p W
  have bW : Below w.heap.size w (w.alloc (.cells #[.string ⟨#[72, 69, 65, 68]⟩, .string h, .string p, .slice a l.length cap] 29)) := (Below.refl _ _).alloc (Nat.le_refl _) _
  cases ch : hostS h
  · have HE : Hid (reqC ⟨#[72, 69, 65, 68]⟩ h p l = 5) := reqC_bad (by simp [lineS, ch])
    simp only [ch] at CH
    have HB : Hid (Below w.heap.size w (w.alloc (.cells #[.string ⟨#[72, 69, 65, 68]⟩, .string h, .string p, .slice a l.length cap] 29))) := bW
    clear bW HM hi ch CP
    go_enter Tryd.func6, Tryd.ntmps6
    go_wp2_with (go_at_call 16; refine (CH _).mono ?_; rintro e w' ⟨rfl, rfl⟩)
    go_ret
    exact ⟨ret_int HE.out.symm, HB.out⟩
  simp only [ch] at CH
  cases cp : pathS p
  · have HE : Hid (reqC ⟨#[72, 69, 65, 68]⟩ h p l = 5) := reqC_bad (by simp [lineS, cp])
    simp only [cp] at CP
    have HB : Hid (Below w.heap.size w (w.alloc (.cells #[.string ⟨#[72, 69, 65, 68]⟩, .string h, .string p, .slice a l.length cap] 29))) := bW
    clear bW HM hi ch cp
    go_enter Tryd.func6, Tryd.ntmps6
    go_wp2_with (first | (go_at_call 16; refine (CH _).mono ?_; rintro e w' ⟨rfl, rfl⟩) | (go_at_call 17; refine (CP _).mono ?_; rintro e w' ⟨rfl, rfl⟩))
    go_ret
    exact ⟨ret_int HE.out.symm, HB.out⟩
  simp only [cp] at CP
  have hls : lineS ⟨#[72, 69, 65, 68]⟩ h p = true := by simp [lineS, HM, ch, cp]
  have HR : Hid (reqC ⟨#[72, 69, 65, 68]⟩ h p l = restC l) := reqC_ok hls
  obtain ⟨W, hW⟩ : ∃ W, W = w.alloc (.cells #[.string ⟨#[72, 69, 65, 68]⟩, .string h, .string p, .slice a l.length cap] 29) := ⟨_, rfl⟩
  have HW : Hid (W = w.alloc (.cells #[.string ⟨#[72, 69, 65, 68]⟩, .string h, .string p, .slice a l.length cap] 29)) := hW
  have hc3 : W.cell? ⟨w.heap.size, 3, none⟩ = some (.slice a l.length cap) := by rw [hW, World.cell?_alloc_mark]; rfl
  rw [← hW] at bW
  have hlt : w.heap.size < W.heap.size := by rw [hW]; simp
  have CF := specHFault_any W a cap l hl (hi.keep bW)
  have HI : Hid (HdsIn w a l) := hi
  have HB : Hid (Below w.heap.size w W) := bW
  clear hi bW hW ch cp hls HM
  go_enter Tryd.func6, Tryd.ntmps6
  go_wp2_with (first | (go_at_call 16; refine (CH _).mono ?_; rintro e w' ⟨rfl, rfl⟩) | (go_at_call 17; refine (CP _).mono ?_; rintro e w' ⟨rfl, rfl⟩))
  rw [← HW.out]
  refine CF.mono ?_
  rintro e w1 ⟨rfl, hb1⟩
  clear CF CH CP HW
  have hc3' : w1.cell? ⟨w.heap.size, 3, none⟩ = some (.slice a l.length cap) := by rw [hb1.cell (p := ⟨w.heap.size, 3, none⟩) hlt]; exact hc3
  have HB1 : Hid (Below w.heap.size w w1) := HB.out.trans (hb1.mono HB.out.size)
  have hlt1 : w.heap.size < w1.heap.size := Nat.lt_of_lt_of_le hlt hb1.size
  clear hb1 hc3 hlt HB
  by_cases c0 : headsC l = 0
  · obtain ⟨s1, s2⟩ := heads_sizes c0
    have CJ := l4Join_any w1 a cap l hostN s1 s2 (by decide) (HI.out.keep HB1.out)
    rw [hostN_low] at CJ
    have HJ : Hid (Calls Tryd.prog 19 #[.slice a l.length cap, .string ⟨#[104, 111, 115, 116]⟩] w1 fun e w' => e = .returned (.tuple #[.string ⟨(hjoinL (valsOf hostN l)).toArray⟩, .bool (anyV (valsOf hostN l))]) ∧ Below w1.heap.size w1 w') := CJ
    have HE1 : Hid (valsOf hostN l ≠ [] → restC l = 6) := fun hv => restC_host c0 hv
    have HE2 : Hid (valsOf hostN l = [] → 20 ≤ l.length → restC l = 2) := fun hv hn => restC_many c0 hv hn
    have HE3 : Hid (valsOf hostN l = [] → ¬ 20 ≤ l.length → restC l = 0) := fun hv hn => restC_ok c0 hv hn
    rw [c0]
    clear c0 s2 CJ HI
    generalize (⟨(hjoinL (valsOf hostN l)).toArray⟩ : ByteArray) = t at *
    go_wp2_with fail
    refine HJ.out.mono ?_
    rintro e w2 ⟨rfl, hb2⟩
    have hc4 : w2.cell? ⟨w.heap.size, 3, none⟩ = some (.slice a l.length cap) := by rw [hb2.cell (p := ⟨w.heap.size, 3, none⟩) hlt1]; exact hc3'
    have HB2 : Hid (Below w.heap.size w w2) := HB1.out.trans (hb2.mono HB1.out.size)
    clear hb2 HJ hc3' hlt1
    by_cases cv : valsOf hostN l = []
    · rw [anyV_nil cv]
      by_cases cn : 20 ≤ l.length
      · have HE : Hid (reqC ⟨#[72, 69, 65, 68]⟩ h p l = 2) := by show _ = _; rw [HR.out]; exact HE2.out cv cn
        have cn' : (20 : Int) ≤ l.length := by omega
        clear HE1 HE2 HE3 HR cv cn
        generalize l.length = n at *
        go_wp2_with fail
        go_ret
        exact ⟨ret_int HE.out.symm, HB2.out⟩
      · have HE : Hid (reqC ⟨#[72, 69, 65, 68]⟩ h p l = 0) := by show _ = _; rw [HR.out]; exact HE3.out cv cn
        have cn' : ¬ (20 : Int) ≤ l.length := by omega
        clear HE1 HE2 HE3 HR cv cn
        generalize l.length = n at *
        go_wp2_with fail
        go_ret
        exact ⟨ret_int HE.out.symm, HB2.out⟩
    · rw [anyV_some cv]
      have HE : Hid (reqC ⟨#[72, 69, 65, 68]⟩ h p l = 6) := by show _ = _; rw [HR.out]; exact HE1.out cv
      clear HE1 HE2 HE3 HR cv
      go_wp2_with fail
      go_ret
      exact ⟨ret_int HE.out.symm, HB2.out⟩
  · have HE : Hid (reqC ⟨#[72, 69, 65, 68]⟩ h p l = headsC l) := by show _ = _; rw [HR.out]; exact restC_heads c0
    clear HR HI
    generalize headsC l = c at *
    go_wp2_with fail
    go_ret
    exact ⟨ret_int HE.out.symm, HB1.out⟩
set_option maxHeartbeats 1000000 in
theorem specReq_any (w : World) (m h p : ByteArray) (a : Option Addr) (cap : Nat) (l : List Hdr) (hl : l.length ≤ 1048576) (hi : HdsIn w a l) :
    Calls Tryd.prog 6 #[.agg #[.string m, .string h, .string p, .slice a l.length cap]] w fun e w' => e = .returned (.int .i64 (reqC m h p l)) ∧ Below w.heap.size w w' := by
  by_cases c1 : m = ⟨#[71, 69, 84]⟩
  · subst c1; exact specReq_get w h p a cap l hl hi
  by_cases c2 : m = ⟨#[72, 69, 65, 68]⟩
  · subst c2; exact specReq_head w h p a cap l hl hi
  have HE : Hid (reqC m h p l = 5) := reqC_bad (by
    have : methS m = false := by simp only [methS, getT, headT, c1, c2, decide_false]; rfl
    simp [lineS, this])
  have d1 : (m.toList == [71, 69, 84]) = false := lit_ne c1
  have d2 : (m.toList == [72, 69, 65, 68]) = false := lit_ne c2
  clear c1 c2
  clear hi
  go_enter Tryd.func6, Tryd.ntmps6
  go_wp2_with fail
  go_ret
  exact ⟨ret_int HE.out.symm, (Below.refl _ _).alloc (Nat.le_refl _) _⟩
set_option maxHeartbeats 8000000 in
theorem implReq_get (E : Errs) (w : World) (h p : ByteArray) (a : Option Addr) (cap : Nat) (l : List Hdr) (hl : l.length ≤ 1048576) (hcap : l.length ≤ cap) (hps : p.size ≤ 1048576) (hset : SetIs w) (hE : ErrsIs w E) (hi : HdsIn w a l) :
    Calls Tryd.prog 22 #[.agg #[.string ⟨#[71, 69, 84]⟩, .string h, .string p, .slice a l.length cap]] w fun e w' => e = .returned (errV E (reqC ⟨#[71, 69, 84]⟩ h p l)) ∧ Below w.heap.size w w' := by
  have HM : methS ⟨#[71, 69, 84]⟩ = true := by decide +kernel
  obtain ⟨W, hW⟩ : ∃ W, W = w.alloc (.cells #[.string ⟨#[71, 69, 84]⟩, .string h, .string p, .slice a l.length cap] 29) := ⟨_, rfl⟩
  have bW : Below w.heap.size w W := by rw [hW]; exact (Below.refl _ _).alloc (Nat.le_refl _) _
  have HW : Hid (W = w.alloc (.cells #[.string ⟨#[71, 69, 84]⟩, .string h, .string p, .slice a l.length cap] 29)) := hW
  have hlt : w.heap.size < W.heap.size := by rw [hW]; simp
  have hc2 : W.cell? ⟨w.heap.size, 2, none⟩ = some (.string p) := by rw [hW, World.cell?_alloc_mark]; rfl
  have hc3 : W.cell? ⟨w.heap.size, 3, none⟩ = some (.slice a l.length cap) := by rw [hW, World.cell?_alloc_mark]; rfl
  clear hW
  have CH := isHost_any h W
  have HI : Hid (∀ X, Below w.heap.size w X → HdsIn X a l) := fun X hb => hi.keep hb
  have HS : Hid (∀ X, Below w.heap.size w X → SetIs X) := fun X hb => hset.below hb
  have HE0 : Hid (∀ X, Below w.heap.size w X → ErrsIs X E) := fun X hb => hE.below hb
  have HB : Hid (Below w.heap.size w W) := bW
  clear hi hset hE bW
  cases ch : hostS h
  · have HE : Hid (errV E (reqC ⟨#[71, 69, 84]⟩ h p l) = .iface 133 (.pointer (some E.u))) := by show _ = _; rw [reqC_bad (by simp [lineS, ch])]; rfl
    simp only [ch] at CH
    clear HM ch hc2 hc3 hlt
    go_enter Tryd.func22, Tryd.ntmps22
    go_wp2_with fail
    rw [← HW.out]
    refine CH.mono ?_
    rintro e w1 ⟨rfl, hb1⟩
    have HB1 : Hid (Below w.heap.size w w1) := HB.out.trans (hb1.mono HB.out.size)
    have gU := (HE0.out _ HB1.out).gU
    clear CH HW hb1 HB HE0
    go_wp2_with fail
    go_ret
    exact ⟨congrArg Ending.returned HE.out.symm, HB1.out⟩
  simp only [ch] at CH
  have CP : Hid (∀ X, Below w.heap.size w X → Calls Tryd.prog 38 #[.string p] X fun e w' => e = .returned (.bool (pathS p)) ∧ Below X.heap.size X w') := fun X hb => isPath_any p X (HS.out X hb) hps
  cases cp : pathS p
  · have HE : Hid (errV E (reqC ⟨#[71, 69, 84]⟩ h p l) = .iface 133 (.pointer (some E.u))) := by show _ = _; rw [reqC_bad (by simp [lineS, cp])]; rfl
    rw [cp] at CP
    clear HM ch cp hc3 hps
    go_enter Tryd.func22, Tryd.ntmps22
    go_wp2_with fail
    rw [← HW.out]
    refine CH.mono ?_
    rintro e w1 ⟨rfl, hb1⟩
    have HB1 : Hid (Below w.heap.size w w1) := HB.out.trans (hb1.mono HB.out.size)
    have hc2' : w1.cell? ⟨w.heap.size, 2, none⟩ = some (.string p) := by rw [hb1.cell (p := ⟨w.heap.size, 2, none⟩) hlt]; exact hc2
    clear CH HW hb1 HB hc2 hlt
    have C2 := CP.out w1 HB1.out
    go_wp2_with fail
    refine C2.mono ?_
    rintro e w2 ⟨rfl, hb2⟩
    have HB2 : Hid (Below w.heap.size w w2) := HB1.out.trans (hb2.mono HB1.out.size)
    have gU := (HE0.out _ HB2.out).gU
    clear C2 CP hb2 HB1 HE0 hc2'
    go_wp2_with fail
    go_ret
    exact ⟨congrArg Ending.returned HE.out.symm, HB2.out⟩
  rw [cp] at CP
  have hls : lineS ⟨#[71, 69, 84]⟩ h p = true := by simp [lineS, HM, ch, cp]
  have HR : Hid (reqC ⟨#[71, 69, 84]⟩ h p l = restC l) := reqC_ok hls
  have HK := headsC_codes l
  have CF : Hid (∀ X, Below w.heap.size w X → Calls Tryd.prog 40 #[.slice a l.length cap] X fun e w' => e = .returned (.int .i64 (headsC l)) ∧ Below X.heap.size X w') := fun X hb => implHFault_any X a cap l hl (HS.out X hb) (HI.out X hb)
  clear hls HM ch cp hps
  go_enter Tryd.func22, Tryd.ntmps22
  go_wp2_with fail
  rw [← HW.out]
  refine CH.mono ?_
  rintro e w1 ⟨rfl, hb1⟩
  have HB1 : Hid (Below w.heap.size w w1) := HB.out.trans (hb1.mono HB.out.size)
  have hc2' : w1.cell? ⟨w.heap.size, 2, none⟩ = some (.string p) := by rw [hb1.cell (p := ⟨w.heap.size, 2, none⟩) hlt]; exact hc2
  have hc3' : w1.cell? ⟨w.heap.size, 3, none⟩ = some (.slice a l.length cap) := by rw [hb1.cell (p := ⟨w.heap.size, 3, none⟩) hlt]; exact hc3
  have hlt1 : w.heap.size < w1.heap.size := Nat.lt_of_lt_of_le hlt hb1.size
  clear CH HW hb1 HB hc2 hc3 hlt
  have C2 := CP.out w1 HB1.out
  go_wp2_with fail
  refine C2.mono ?_
  rintro e w2 ⟨rfl, hb2⟩
  have HB2 : Hid (Below w.heap.size w w2) := HB1.out.trans (hb2.mono HB1.out.size)
  have hc3 : w2.cell? ⟨w.heap.size, 3, none⟩ = some (.slice a l.length cap) := by rw [hb2.cell (p := ⟨w.heap.size, 3, none⟩) hlt1]; exact hc3'
  have hlt2 : w.heap.size < w2.heap.size := Nat.lt_of_lt_of_le hlt1 hb2.size
  clear C2 CP hb2 HB1 hc2' hc3' hlt1
  have C3 := CF.out w2 HB2.out
  go_wp2_with fail
  refine C3.mono ?_
  rintro e w3 ⟨rfl, hb3⟩
  have HB3 : Hid (Below w.heap.size w w3) := HB2.out.trans (hb3.mono HB2.out.size)
  have hc3' : w3.cell? ⟨w.heap.size, 3, none⟩ = some (.slice a l.length cap) := by rw [hb3.cell (p := ⟨w.heap.size, 3, none⟩) hlt2]; exact hc3
  have hlt3 : w.heap.size < w3.heap.size := Nat.lt_of_lt_of_le hlt2 hb3.size
  clear C3 CF hb3 HB2 hc3 hlt2
  have C4 := headError_any E (headsC l) w3 (HE0.out _ HB3.out) HK
  by_cases c0 : headsC l = 0
  · rw [c0] at C4
    rw [errV0] at C4
    rw [c0]
    have CJ : Calls Tryd.prog 41 #[.slice a l.length cap, .string ⟨#[72, 111, 115, 116]⟩] w3 fun e w' => e = .returned (.agg #[.int .i64 (joinC l ⟨#[72, 111, 115, 116]⟩), .string (joinT l ⟨#[72, 111, 115, 116]⟩)]) ∧ Below w3.heap.size w3 w' := implJoin_any w3 a cap l ⟨#[72, 111, 115, 116]⟩ hl hcap (HS.out _ HB3.out) (HI.out _ HB3.out)
    obtain ⟨hj1, hj2⟩ := reqJoin c0
    have HJ : Hid (Calls Tryd.prog 41 #[.slice a l.length cap, .string ⟨#[72, 111, 115, 116]⟩] w3 fun e w' => e = .returned (.agg #[.int .i64 (joinC l ⟨#[72, 111, 115, 116]⟩), .string (joinT l ⟨#[72, 111, 115, 116]⟩)]) ∧ Below w3.heap.size w3 w') := CJ
    clear CJ
    generalize joinT l ⟨#[72, 111, 115, 116]⟩ = jt at *
    by_cases cv : valsOf hostN l = []
    · rw [hj2 cv] at HJ
      have HN := (headsC_zero c0).1
      clear hj1 hj2 HI HS HK
      by_cases cn : 20 ≤ l.length
      · have HE : Hid (errV E (reqC ⟨#[71, 69, 84]⟩ h p l) = .iface 133 (.pointer (some E.m))) := by show _ = _; rw [HR.out, restC_many c0 cv cn]; rfl
        have cn' : (l.length : Int) = 20 := by omega
        have cb : ((l.length : Int) == 20) = true := by rw [cn']; rfl
        clear HR cv cn cn' c0
        generalize l.length = n at *
        go_wp2_with fail
        refine C4.mono ?_
        rintro e w4 ⟨rfl, hw⟩
        obtain rfl := hw.symm
        clear C4 hw
        go_wp2_with fail
        refine HJ.out.mono ?_
        rintro e w5 ⟨rfl, hb5⟩
        have hc5 : w5.cell? ⟨w.heap.size, 3, none⟩ = some (.slice a n cap) := by rw [hb5.cell (p := ⟨w.heap.size, 3, none⟩) hlt3]; exact hc3'
        have HB5 : Hid (Below w.heap.size w w5) := HB3.out.trans (hb5.mono HB3.out.size)
        have gM := (HE0.out _ HB5.out).gM
        clear hb5 HJ hc3' hlt3 HB3 HE0
        have hfc := f_field_code
        go_wp2_with fail
        go_ret
        exact ⟨congrArg Ending.returned HE.out.symm, HB5.out⟩
      · have HE : Hid (errV E (reqC ⟨#[71, 69, 84]⟩ h p l) = .nilIface) := by show _ = _; rw [HR.out, restC_ok c0 cv cn]; rfl
        have cb : ((l.length : Int) == 20) = false := by rw [beq_eq_false_iff_ne]; omega
        clear HR cv cn c0 HE0
        generalize l.length = n at *
        go_wp2_with fail
        refine C4.mono ?_
        rintro e w4 ⟨rfl, hw⟩
        obtain rfl := hw.symm
        clear C4 hw
        go_wp2_with fail
        refine HJ.out.mono ?_
        rintro e w5 ⟨rfl, hb5⟩
        have hc5 : w5.cell? ⟨w.heap.size, 3, none⟩ = some (.slice a n cap) := by rw [hb5.cell (p := ⟨w.heap.size, 3, none⟩) hlt3]; exact hc3'
        have HB5 : Hid (Below w.heap.size w w5) := HB3.out.trans (hb5.mono HB3.out.size)
        clear hb5 HJ hc3' hlt3 HB3
        have hfc := f_field_code
        go_wp2_with fail
        go_ret
        exact ⟨congrArg Ending.returned HE.out.symm, HB5.out⟩
    · rw [hj1 cv] at HJ
      have HE : Hid (errV E (reqC ⟨#[71, 69, 84]⟩ h p l) = .iface 133 (.pointer (some E.d))) := by show _ = _; rw [HR.out, restC_host c0 cv]; rfl
      clear hj1 hj2 HI HS HK HR cv c0
      generalize l.length = n at *
      go_wp2_with fail
      refine C4.mono ?_
      rintro e w4 ⟨rfl, hw⟩
      obtain rfl := hw.symm
      clear C4 hw
      go_wp2_with fail
      refine HJ.out.mono ?_
      rintro e w5 ⟨rfl, hb5⟩
      have HB5 : Hid (Below w.heap.size w w5) := HB3.out.trans (hb5.mono HB3.out.size)
      have gD := (HE0.out _ HB5.out).gD
      clear hb5 HJ hc3' hlt3 HB3 HE0
      have hfc := f_field_code
      go_wp2_with fail
      go_ret
      exact ⟨congrArg Ending.returned HE.out.symm, HB5.out⟩
  · have HE : Hid (errV E (reqC ⟨#[71, 69, 84]⟩ h p l) = errV E (headsC l)) := by show _ = _; rw [HR.out, restC_heads c0]
    have hv : ∃ x, errV E (headsC l) = .iface 133 (.pointer (some x)) := by
      rcases HK with e | e | e
      · exact absurd e c0
      · rw [e]; exact ⟨_, rfl⟩
      · rw [e]; exact ⟨_, rfl⟩
    obtain ⟨x, hx⟩ := hv
    rw [hx] at C4 HE
    clear HR HI HS HK HE0 c0 hx
    generalize headsC l = c at *
    generalize l.length = n at *
    go_wp2_with fail
    refine C4.mono ?_
    rintro e w4 ⟨rfl, hw⟩
    obtain rfl := hw.symm
    clear C4 hw
    go_wp2_with fail
    go_ret
    exact ⟨congrArg Ending.returned HE.out.symm, HB3.out⟩
set_option maxHeartbeats 8000000 in
theorem implReq_head (E : Errs) (w : World) (h p : ByteArray) (a : Option Addr) (cap : Nat) (l : List Hdr) (hl : l.length ≤ 1048576) (hcap : l.length ≤ cap) (hps : p.size ≤ 1048576) (hset : SetIs w) (hE : ErrsIs w E) (hi : HdsIn w a l) :
    Calls Tryd.prog 22 #[.agg #[.string ⟨#[72, 69, 65, 68]⟩, .string h, .string p, .slice a l.length cap]] w fun e w' => e = .returned (errV E (reqC ⟨#[72, 69, 65, 68]⟩ h p l)) ∧ Below w.heap.size w w' := by
  have HM : methS ⟨#[72, 69, 65, 68]⟩ = true := by decide +kernel
  obtain ⟨W, hW⟩ : ∃ W, W = w.alloc (.cells #[.string ⟨#[72, 69, 65, 68]⟩, .string h, .string p, .slice a l.length cap] 29) := ⟨_, rfl⟩
  have bW : Below w.heap.size w W := by rw [hW]; exact (Below.refl _ _).alloc (Nat.le_refl _) _
  have HW : Hid (W = w.alloc (.cells #[.string ⟨#[72, 69, 65, 68]⟩, .string h, .string p, .slice a l.length cap] 29)) := hW
  have hlt : w.heap.size < W.heap.size := by rw [hW]; simp
  have hc2 : W.cell? ⟨w.heap.size, 2, none⟩ = some (.string p) := by rw [hW, World.cell?_alloc_mark]; rfl
  have hc3 : W.cell? ⟨w.heap.size, 3, none⟩ = some (.slice a l.length cap) := by rw [hW, World.cell?_alloc_mark]; rfl
  clear hW
  have CH := isHost_any h W
  have HI : Hid (∀ X, Below w.heap.size w X → HdsIn X a l) := fun X hb => hi.keep hb
  have HS : Hid (∀ X, Below w.heap.size w X → SetIs X) := fun X hb => hset.below hb
  have HE0 : Hid (∀ X, Below w.heap.size w X → ErrsIs X E) := fun X hb => hE.below hb
  have HB : Hid (Below w.heap.size w W) := bW
  clear hi hset hE bW
  cases ch : hostS h
  · have HE : Hid (errV E (reqC ⟨#[72, 69, 65, 68]⟩ h p l) = .iface 133 (.pointer (some E.u))) := by show _ = _; rw [reqC_bad (by simp [lineS, ch])]; rfl
    simp only [ch] at CH
    clear HM ch hc2 hc3 hlt
    go_enter Tryd.func22, Tryd.ntmps22
    go_wp2_with fail
    rw [← HW.out]
    refine CH.mono ?_
    rintro e w1 ⟨rfl, hb1⟩
    have HB1 : Hid (Below w.heap.size w w1) := HB.out.trans (hb1.mono HB.out.size)
    have gU := (HE0.out _ HB1.out).gU
    clear CH HW hb1 HB HE0
    go_wp2_with fail
    go_ret
    exact ⟨congrArg Ending.returned HE.out.symm, HB1.out⟩
  simp only [ch] at CH
  have CP : Hid (∀ X, Below w.heap.size w X → Calls Tryd.prog 38 #[.string p] X fun e w' => e = .returned (.bool (pathS p)) ∧ Below X.heap.size X w') := fun X hb => isPath_any p X (HS.out X hb) hps
  cases cp : pathS p
  · have HE : Hid (errV E (reqC ⟨#[72, 69, 65, 68]⟩ h p l) = .iface 133 (.pointer (some E.u))) := by show _ = _; rw [reqC_bad (by simp [lineS, cp])]; rfl
    rw [cp] at CP
    clear HM ch cp hc3 hps
    go_enter Tryd.func22, Tryd.ntmps22
    go_wp2_with fail
    rw [← HW.out]
    refine CH.mono ?_
    rintro e w1 ⟨rfl, hb1⟩
    have HB1 : Hid (Below w.heap.size w w1) := HB.out.trans (hb1.mono HB.out.size)
    have hc2' : w1.cell? ⟨w.heap.size, 2, none⟩ = some (.string p) := by rw [hb1.cell (p := ⟨w.heap.size, 2, none⟩) hlt]; exact hc2
    clear CH HW hb1 HB hc2 hlt
    have C2 := CP.out w1 HB1.out
    go_wp2_with fail
    refine C2.mono ?_
    rintro e w2 ⟨rfl, hb2⟩
    have HB2 : Hid (Below w.heap.size w w2) := HB1.out.trans (hb2.mono HB1.out.size)
    have gU := (HE0.out _ HB2.out).gU
    clear C2 CP hb2 HB1 HE0 hc2'
    go_wp2_with fail
    go_ret
    exact ⟨congrArg Ending.returned HE.out.symm, HB2.out⟩
  rw [cp] at CP
  have hls : lineS ⟨#[72, 69, 65, 68]⟩ h p = true := by simp [lineS, HM, ch, cp]
  have HR : Hid (reqC ⟨#[72, 69, 65, 68]⟩ h p l = restC l) := reqC_ok hls
  have HK := headsC_codes l
  have CF : Hid (∀ X, Below w.heap.size w X → Calls Tryd.prog 40 #[.slice a l.length cap] X fun e w' => e = .returned (.int .i64 (headsC l)) ∧ Below X.heap.size X w') := fun X hb => implHFault_any X a cap l hl (HS.out X hb) (HI.out X hb)
  clear hls HM ch cp hps
  go_enter Tryd.func22, Tryd.ntmps22
  go_wp2_with fail
  rw [← HW.out]
  refine CH.mono ?_
  rintro e w1 ⟨rfl, hb1⟩
  have HB1 : Hid (Below w.heap.size w w1) := HB.out.trans (hb1.mono HB.out.size)
  have hc2' : w1.cell? ⟨w.heap.size, 2, none⟩ = some (.string p) := by rw [hb1.cell (p := ⟨w.heap.size, 2, none⟩) hlt]; exact hc2
  have hc3' : w1.cell? ⟨w.heap.size, 3, none⟩ = some (.slice a l.length cap) := by rw [hb1.cell (p := ⟨w.heap.size, 3, none⟩) hlt]; exact hc3
  have hlt1 : w.heap.size < w1.heap.size := Nat.lt_of_lt_of_le hlt hb1.size
  clear CH HW hb1 HB hc2 hc3 hlt
  have C2 := CP.out w1 HB1.out
  go_wp2_with fail
  refine C2.mono ?_
  rintro e w2 ⟨rfl, hb2⟩
  have HB2 : Hid (Below w.heap.size w w2) := HB1.out.trans (hb2.mono HB1.out.size)
  have hc3 : w2.cell? ⟨w.heap.size, 3, none⟩ = some (.slice a l.length cap) := by rw [hb2.cell (p := ⟨w.heap.size, 3, none⟩) hlt1]; exact hc3'
  have hlt2 : w.heap.size < w2.heap.size := Nat.lt_of_lt_of_le hlt1 hb2.size
  clear C2 CP hb2 HB1 hc2' hc3' hlt1
  have C3 := CF.out w2 HB2.out
  go_wp2_with fail
  refine C3.mono ?_
  rintro e w3 ⟨rfl, hb3⟩
  have HB3 : Hid (Below w.heap.size w w3) := HB2.out.trans (hb3.mono HB2.out.size)
  have hc3' : w3.cell? ⟨w.heap.size, 3, none⟩ = some (.slice a l.length cap) := by rw [hb3.cell (p := ⟨w.heap.size, 3, none⟩) hlt2]; exact hc3
  have hlt3 : w.heap.size < w3.heap.size := Nat.lt_of_lt_of_le hlt2 hb3.size
  clear C3 CF hb3 HB2 hc3 hlt2
  have C4 := headError_any E (headsC l) w3 (HE0.out _ HB3.out) HK
  by_cases c0 : headsC l = 0
  · rw [c0] at C4
    rw [errV0] at C4
    rw [c0]
    have CJ : Calls Tryd.prog 41 #[.slice a l.length cap, .string ⟨#[72, 111, 115, 116]⟩] w3 fun e w' => e = .returned (.agg #[.int .i64 (joinC l ⟨#[72, 111, 115, 116]⟩), .string (joinT l ⟨#[72, 111, 115, 116]⟩)]) ∧ Below w3.heap.size w3 w' := implJoin_any w3 a cap l ⟨#[72, 111, 115, 116]⟩ hl hcap (HS.out _ HB3.out) (HI.out _ HB3.out)
    obtain ⟨hj1, hj2⟩ := reqJoin c0
    have HJ : Hid (Calls Tryd.prog 41 #[.slice a l.length cap, .string ⟨#[72, 111, 115, 116]⟩] w3 fun e w' => e = .returned (.agg #[.int .i64 (joinC l ⟨#[72, 111, 115, 116]⟩), .string (joinT l ⟨#[72, 111, 115, 116]⟩)]) ∧ Below w3.heap.size w3 w') := CJ
    clear CJ
    generalize joinT l ⟨#[72, 111, 115, 116]⟩ = jt at *
    by_cases cv : valsOf hostN l = []
    · rw [hj2 cv] at HJ
      have HN := (headsC_zero c0).1
      clear hj1 hj2 HI HS HK
      by_cases cn : 20 ≤ l.length
      · have HE : Hid (errV E (reqC ⟨#[72, 69, 65, 68]⟩ h p l) = .iface 133 (.pointer (some E.m))) := by show _ = _; rw [HR.out, restC_many c0 cv cn]; rfl
        have cn' : (l.length : Int) = 20 := by omega
        have cb : ((l.length : Int) == 20) = true := by rw [cn']; rfl
        clear HR cv cn cn' c0
        generalize l.length = n at *
        go_wp2_with fail
        refine C4.mono ?_
        rintro e w4 ⟨rfl, hw⟩
        obtain rfl := hw.symm
        clear C4 hw
        go_wp2_with fail
        refine HJ.out.mono ?_
        rintro e w5 ⟨rfl, hb5⟩
        have hc5 : w5.cell? ⟨w.heap.size, 3, none⟩ = some (.slice a n cap) := by rw [hb5.cell (p := ⟨w.heap.size, 3, none⟩) hlt3]; exact hc3'
        have HB5 : Hid (Below w.heap.size w w5) := HB3.out.trans (hb5.mono HB3.out.size)
        have gM := (HE0.out _ HB5.out).gM
        clear hb5 HJ hc3' hlt3 HB3 HE0
        have hfc := f_field_code
        go_wp2_with fail
        go_ret
        exact ⟨congrArg Ending.returned HE.out.symm, HB5.out⟩
      · have HE : Hid (errV E (reqC ⟨#[72, 69, 65, 68]⟩ h p l) = .nilIface) := by show _ = _; rw [HR.out, restC_ok c0 cv cn]; rfl
        have cb : ((l.length : Int) == 20) = false := by rw [beq_eq_false_iff_ne]; omega
        clear HR cv cn c0 HE0
        generalize l.length = n at *
        go_wp2_with fail
        refine C4.mono ?_
        rintro e w4 ⟨rfl, hw⟩
        obtain rfl := hw.symm
        clear C4 hw
        go_wp2_with fail
        refine HJ.out.mono ?_
        rintro e w5 ⟨rfl, hb5⟩
        have hc5 : w5.cell? ⟨w.heap.size, 3, none⟩ = some (.slice a n cap) := by rw [hb5.cell (p := ⟨w.heap.size, 3, none⟩) hlt3]; exact hc3'
        have HB5 : Hid (Below w.heap.size w w5) := HB3.out.trans (hb5.mono HB3.out.size)
        clear hb5 HJ hc3' hlt3 HB3
        have hfc := f_field_code
        go_wp2_with fail
        go_ret
        exact ⟨congrArg Ending.returned HE.out.symm, HB5.out⟩
    · rw [hj1 cv] at HJ
      have HE : Hid (errV E (reqC ⟨#[72, 69, 65, 68]⟩ h p l) = .iface 133 (.pointer (some E.d))) := by show _ = _; rw [HR.out, restC_host c0 cv]; rfl
      clear hj1 hj2 HI HS HK HR cv c0
      generalize l.length = n at *
      go_wp2_with fail
      refine C4.mono ?_
      rintro e w4 ⟨rfl, hw⟩
      obtain rfl := hw.symm
      clear C4 hw
      go_wp2_with fail
      refine HJ.out.mono ?_
      rintro e w5 ⟨rfl, hb5⟩
      have HB5 : Hid (Below w.heap.size w w5) := HB3.out.trans (hb5.mono HB3.out.size)
      have gD := (HE0.out _ HB5.out).gD
      clear hb5 HJ hc3' hlt3 HB3 HE0
      have hfc := f_field_code
      go_wp2_with fail
      go_ret
      exact ⟨congrArg Ending.returned HE.out.symm, HB5.out⟩
  · have HE : Hid (errV E (reqC ⟨#[72, 69, 65, 68]⟩ h p l) = errV E (headsC l)) := by show _ = _; rw [HR.out, restC_heads c0]
    have hv : ∃ x, errV E (headsC l) = .iface 133 (.pointer (some x)) := by
      rcases HK with e | e | e
      · exact absurd e c0
      · rw [e]; exact ⟨_, rfl⟩
      · rw [e]; exact ⟨_, rfl⟩
    obtain ⟨x, hx⟩ := hv
    rw [hx] at C4 HE
    clear HR HI HS HK HE0 c0 hx
    generalize headsC l = c at *
    generalize l.length = n at *
    go_wp2_with fail
    refine C4.mono ?_
    rintro e w4 ⟨rfl, hw⟩
    obtain rfl := hw.symm
    clear C4 hw
    go_wp2_with fail
    go_ret
    exact ⟨congrArg Ending.returned HE.out.symm, HB3.out⟩
set_option maxHeartbeats 1000000 in
theorem implReqE_any (E : Errs) (w : World) (m h p : ByteArray) (a : Option Addr) (cap : Nat) (l : List Hdr) (hl : l.length ≤ 1048576) (hcap : l.length ≤ cap) (hps : p.size ≤ 1048576) (hset : SetIs w) (hE : ErrsIs w E) (hi : HdsIn w a l) :
    Calls Tryd.prog 22 #[.agg #[.string m, .string h, .string p, .slice a l.length cap]] w fun e w' => e = .returned (errV E (reqC m h p l)) ∧ Below w.heap.size w w' := by
  by_cases c1 : m = ⟨#[71, 69, 84]⟩
  · subst c1; exact implReq_get E w h p a cap l hl hcap hps hset hE hi
  by_cases c2 : m = ⟨#[72, 69, 65, 68]⟩
  · subst c2; exact implReq_head E w h p a cap l hl hcap hps hset hE hi
  have HE : Hid (errV E (reqC m h p l) = .iface 133 (.pointer (some E.u))) := by
    show _ = _
    rw [reqC_bad (by
      have : methS m = false := by simp only [methS, getT, headT, c1, c2, decide_false]; rfl
      simp [lineS, this])]
    rfl
  have d1 : (m.toList == [71, 69, 84]) = false := lit_ne c1
  have d2 : (m.toList == [72, 69, 65, 68]) = false := lit_ne c2
  clear c1 c2
  have HB : Hid (Below w.heap.size w (w.alloc (.cells #[.string m, .string h, .string p, .slice a l.length cap] 29))) := (Below.refl _ _).alloc (Nat.le_refl _) _
  have gU := (hE.below HB.out).gU
  clear hi hset hE
  generalize l.length = n at *
  go_enter Tryd.func22, Tryd.ntmps22
  go_wp2_with fail
  go_ret
  exact ⟨congrArg Ending.returned HE.out.symm, HB.out⟩
set_option maxHeartbeats 1000000 in
theorem implReq_any (E : Errs) (w : World) (m h p : ByteArray) (a : Option Addr) (cap : Nat) (l : List Hdr) (hl : l.length ≤ 1048576) (hcap : l.length ≤ cap) (hps : p.size ≤ 1048576) (hset : SetIs w) (hE : ErrsIs w E) (hi : HdsIn w a l) :
    Calls Tryd.prog 8 #[.agg #[.string m, .string h, .string p, .slice a l.length cap]] w fun e w' => e = .returned (.int .i64 (reqC m h p l)) ∧ Below w.heap.size w w' := by
  have bW : Below w.heap.size w (w.alloc (.cells #[.string m, .string h, .string p, .slice a l.length cap] 29)) := (Below.refl _ _).alloc (Nat.le_refl _) _
  have C1 := implReqE_any E _ m h p a cap l hl hcap hps (hset.below bW) (hE.below bW) (hi.keep bW)
  have HK := reqC_codes m h p l
  have C2 : Hid (∀ X, ErrsIs X E → Calls Tryd.prog 21 #[errV E (reqC m h p l)] X fun e w' => e = .returned (.int .i64 (reqC m h p l)) ∧ w' = X) := fun X hX => codeOf_any E _ X hX (by omega)
  have HE0 : Hid (∀ X, Below w.heap.size w X → ErrsIs X E) := fun X hb => hE.below hb
  have HB : Hid (Below w.heap.size w (w.alloc (.cells #[.string m, .string h, .string p, .slice a l.length cap] 29))) := bW
  clear hi hset hE HK bW
  generalize reqC m h p l = c at *
  generalize l.length = n at *
  generalize errV E c = ev at *
  go_enter Tryd.func8, Tryd.ntmps8
  go_wp2_with fail
  refine C1.mono ?_
  rintro e w1 ⟨rfl, hb1⟩
  have HB1 : Hid (Below w.heap.size w w1) := HB.out.trans (hb1.mono HB.out.size)
  have C3 := C2.out w1 (HE0.out _ HB1.out)
  clear hb1 HB C1 C2 HE0
  go_wp2_with fail
  refine C3.mono ?_
  rintro e w2 ⟨rfl, hw⟩
  obtain rfl := hw.symm
  clear hw C3
  go_wp2_with fail
  go_ret
  exact ⟨rfl, HB1.out⟩
end Go.Proofs.YtojcjpdgjohldaaDoor
