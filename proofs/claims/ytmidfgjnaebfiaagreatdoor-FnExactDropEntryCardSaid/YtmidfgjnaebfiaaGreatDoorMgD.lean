/-
  Texts of one claim, one behind the other.
-/
import Derived.BigQuiet
import Derived.Deep.CutBlock
import Derived.Deep.CutRange
import Derived.Deep.RegionHeld3
import Derived.Deep.RegionWith
import Derived.Lib.QuietBelow
import Derived.Lib.SliceRun
import Derived.StillTail
import Derived.Test.YtmidfgjnaebfiaaGreatDoorMgC
/-
  What a store's fault is, plainly; what entries cost, by the model.
-/
namespace Go.Proofs.YtmidfgjnaebfiaaGreatDoor
open Go.ChangeShapes Go.WideShapes Go.ChangeAt Go.RowKit Go.Sort
def entC (x : Ent) : Int := entryC x.key x.st x.pins x.hs x.bl.length x.ts.length x.t x.g x.l x.s x.e
def entN (x : Ent) : Int := costN x.key x.hs x.bl.length
def faultE : List Ent → Int
  | [] => 0
  | x :: l => if entC x ≠ 0 then entC x else faultE l
def costsE : List Ent → Int
  | [] => 0
  | x :: l => entN x + costsE l
def keysE (l : List Ent) : List (List UInt8) := l.map (fun x => x.key.toList)
def dupE (l : List Ent) : Bool := !decide (keysE l).Nodup
def storeC (bu gu : Int) (tl kl : List Ent) : Int :=
  if bu < 0 ∨ 1000000 < bu ∨ gu < 0 ∨ bu < gu then 3 else
  if 40 < tl.length + kl.length then 2 else
  if faultE (tl ++ kl) ≠ 0 then faultE (tl ++ kl) else
  if dupE (tl ++ kl) = true then 6 else
  if bu < costsE (tl ++ kl) ∨ gu < costsE kl then 7 else 0
theorem faultE_zero : ∀ {l : List Ent}, faultE l = 0 → ∀ x ∈ l, entC x = 0
  | [], _, x, hx => by simp at hx
  | y :: l, h, x, hx => by
    unfold faultE at h
    by_cases c : entC y = 0
    · rw [if_neg (by simpa using c)] at h
      rcases List.mem_cons.1 hx with rfl | hx
      · exact c
      · exact faultE_zero h x hx
    · rw [if_pos c] at h; exact absurd h c
theorem faultE_app (l m : List Ent) (h : faultE (l ++ m) = 0) : faultE l = 0 ∧ faultE m = 0 := by
  induction l with
  | nil => exact ⟨rfl, h⟩
  | cons x l ih =>
    simp only [List.cons_append, faultE] at h ⊢
    by_cases c : entC x = 0
    · rw [if_neg (by simpa using c)] at h ⊢; exact ih h
    · rw [if_pos c] at h; exact absurd h c
theorem entN_le {x : Ent} (h : entC x = 0) : 0 ≤ entN x ∧ entN x ≤ 8000 := by
  obtain ⟨z1, _, _, z4, z5, _, _⟩ := entryC_zero h
  obtain ⟨h20, hfl⟩ := headsC_zero z4
  have hlen := packL_len4 x.hs (fun r hr => by obtain ⟨i, hi⟩ := List.mem_iff_getElem?.1 hr; exact hfl i r hi)
  unfold entN costN
  omega
theorem costsE_le : ∀ (l : List Ent), (∀ x ∈ l, entC x = 0) → 0 ≤ costsE l ∧ costsE l ≤ 8000 * l.length
  | [], _ => ⟨by simp [costsE], by simp [costsE]⟩
  | x :: l, h => by
    have a := entN_le (h x (by simp))
    have b := costsE_le l (fun y hy => h y (by simp [hy]))
    simp only [costsE, List.length_cons]
    omega
theorem costsE_app (l m : List Ent) : costsE (l ++ m) = costsE l + costsE m := by
  induction l with
  | nil => simp [costsE]
  | cons x l ih => simp only [List.cons_append, costsE, ih]; omega
set_option maxRecDepth 100000 in
set_option maxHeartbeats 4000000 in
theorem l8Costs_any (w : World) (a : Option Addr) (cap : Nat) (l : List (Ent × EntR)) (hl : l.length ≤ 40) (hi : EntsIn w a l) (hz : ∀ q ∈ l, entC q.1 = 0) :
    Calls Tryz.prog 124 #[.slice a l.length cap] w fun e w' => e = .returned (.int .i64 (costsE (l.map Prod.fst))) ∧ Below w.heap.size w w' := by
  have HI : Hid (EntsIn w a l) := hi
  have HZ : Hid (∀ q ∈ l, entC q.1 = 0) := hz
  clear hi hz
  obtain ⟨S, hS⟩ : ∃ S, Hid (costsE (l.map Prod.fst) = S) := ⟨_, rfl⟩
  rw [hS.out]
  generalize hn : l.length = n at *
  have HN : Hid (l.length = n) := hn
  clear hn
  go_enter Tryz.func124, Tryz.ntmps124
  go_wp2_with fail
  go_loopw [3, 4] (fun x i wr => ∃ (k : Nat) (c : Int), k ≤ n ∧ i = .int .i64 k ∧ x = .int .i64 c ∧ 0 ≤ c ∧ c ≤ 8000 * k ∧ S = c + costsE ((l.map Prod.fst).drop k) ∧ Below w.heap.size w wr) (fun _ i _ => n - (intOf i).toNat)
  case atStart => exact ⟨0, 0, Nat.zero_le _, rfl, rfl, by omega, by omega, by rw [← hS.out]; simp, Below.refl _ _⟩
  case round =>
    obtain ⟨k, c, hk, rfl, rfl, c2, c3, hs, hb⟩ := hrel
    have HS : Hid (S = c + costsE ((l.map Prod.fst).drop k)) := hs
    clear hs hS
    by_cases hlt : k < n
    · obtain ⟨q, hr⟩ : ∃ r, l[k]? = some r := ⟨l[k]'(by have := HN.out; omega), List.getElem?_eq_getElem _⟩
      rcases HI.out with h | ⟨b, off, rfl, hat⟩
      · subst h; simp at hr
      have PC := (hat.keep hb).cells hr
      have hin := (hat.keep hb).in hr
      have h0 := HZ.out q (List.mem_of_getElem? hr)
      have hle := entN_le h0
      have HS2 : Hid (S = c + entN q.1 + costsE ((l.map Prod.fst).drop (k + 1))) := by
        show _ = _
        obtain ⟨hk2, hr2⟩ := List.getElem?_eq_some_iff.1 hr
        rw [HS.out, List.drop_eq_getElem_cons (i := k) (by simpa using hk2), costsE]
        simp [hr2]
        omega
      have C : Hid (Calls Tryz.prog 173 #[.pointer (some ⟨b, off + k * 13, none⟩)] wr fun r w' => r = .returned (.int .i64 (entN q.1)) ∧ Below wr.heap.size wr w') := by
        obtain ⟨z1, _, _, z4, z5, _, _⟩ := entryC_zero h0
        exact l8Cost_at wr b (off + k * 13) q.1.key q.2.ha q.2.hc q.1.hs q.2.ba q.1.bl.length q.2.bc PC.1 PC.2.2.1 PC.2.2.2.1 z1.2 z5 z4 hin.h
      have g : (k : Int) < n := by omega
      have g0 : (0 : Int) ≤ k := by omega
      clear HS hr hat HI HZ PC hin h0
      generalize entN q.1 = en at *
      have e1 : IntKind.i64.wrap (c + en) = c + en := by
        unfold IntKind.wrap; simp [IntKind.signed, IntKind.bits]; omega
      go_wp2_with fail
      refine C.out.mono ?_
      rintro r w2 ⟨rfl, hb2⟩
      have HB2 : Hid (Below w.heap.size w w2) := hb.trans (hb2.mono hb.size)
      clear hb2 C hb
      go_wp2_with fail
      go_roundw
      case rel => exact ⟨k + 1, c + en, by omega, by go_num, by first | rfl | rw [e1], by omega, by omega, HS2.out, HB2.out⟩
      case measure => simp [intOf]; omega
    · have HF : Hid (S = c) := by
        show _ = _
        rw [HS.out, List.drop_of_length_le (by have := HN.out; simp; omega), costsE]
        omega
      clear HS
      go_wp2_with fail
      go_ret
      exact ⟨ret_int HF.out.symm, hb⟩
end Go.Proofs.YtmidfgjnaebfiaaGreatDoor
/-
  Is it an entry? The program's answer.
-/
namespace Go.Proofs.YtmidfgjnaebfiaaGreatDoor
open Go.ChangeShapes Go.WideShapes Go.ChangeAt Go.RowKit Go.Sort
set_option maxHeartbeats 8000000 in
theorem implEntry_any (w : World) (key : ByteArray) (st : Int) (ha : Option Addr) (hc : Nat) (ba : Option Addr) (bc : Nat) (t g l s e : Int) (b1 b2 : Bool) (ta : Option Addr) (tc : Nat) (pins : Int) (hs : List Hdr) (bn tn : Nat) (hk : key.size ≤ maxLen) (hhl : hs.length ≤ 1048576) (hbn : bn ≤ maxLen) (htn : tn ≤ maxLen) (hset : SetIs w) (hH : HdsIn w ha hs) :
    Calls Tryz.prog 55 #[.agg #[.string key, .int .i64 st, .slice ha hs.length hc, .slice ba bn bc, .int .i64 t, .int .i64 g, .int .i64 l, .int .i64 s, .int .i64 e, .bool b1, .bool b2, .slice ta tn tc, .int .i64 pins]] w fun r w' => r = .returned (.int .i64 (entryC key st pins hs bn tn t g l s e)) ∧ Below w.heap.size w w' := by
  have HK : Hid (Below w.heap.size w (w.alloc (.cells #[.string key, .int .i64 st, .slice ha hs.length hc, .slice ba bn bc, .int .i64 t, .int .i64 g, .int .i64 l, .int .i64 s, .int .i64 e, .bool b1, .bool b2, .slice ta tn tc, .int .i64 pins] 32)) ∧ E13 (w.alloc (.cells #[.string key, .int .i64 st, .slice ha hs.length hc, .slice ba bn bc, .int .i64 t, .int .i64 g, .int .i64 l, .int .i64 s, .int .i64 e, .bool b1, .bool b2, .slice ta tn tc, .int .i64 pins] 32)) w.heap.size (.string key) (.int .i64 st) (.slice ha hs.length hc) (.slice ba bn bc) (.int .i64 t) (.int .i64 g) (.int .i64 l) (.int .i64 s) (.int .i64 e) (.bool b1) (.bool b2) (.slice ta tn tc) (.int .i64 pins)) := ⟨(Below.refl _ _).alloc (Nat.le_refl _) _, E13.new w _ _ _ _ _ _ _ _ _ _ _ _ _ _⟩
  have HI : Hid (∀ w, Calls Tryz.prog 125 #[.int .i64 st] w fun r w' => r = .returned (.bool (stB st)) ∧ w' = w) := mayKeep_any st
  have HH : Hid (∀ X, Below w.heap.size w X → Calls Tryz.prog 126 #[.slice ha hs.length hc] X fun e w' => e = .returned (.int .i64 (headsC hs)) ∧ Below X.heap.size X w') := fun X hb => implHFault_any X ha hc hs hhl (hset.below hb) (hH.keep hb)
  have HM : Hid (∀ X, Calls Tryz.prog 127 #[.agg #[.int .i64 t, .int .i64 g, .int .i64 l, .int .i64 s, .int .i64 e, .bool b1, .bool b2]] X fun r w' => r = .returned (.int .i64 (metaC t g l s e)) ∧ Below X.heap.size X w') := fun X => implMeta_any t g l s e b1 b2 X
  obtain ⟨Z, hZ⟩ : ∃ Z, entryC key st pins hs bn tn t g l s e = Z := ⟨_, rfl⟩
  rw [hZ]
  unfold entryC at hZ
  obtain ⟨hcd, hhc⟩ : ∃ x, headsC hs = x := ⟨_, rfl⟩
  obtain ⟨mcd, hmc⟩ : ∃ x, metaC t g l s e = x := ⟨_, rfl⟩
  obtain ⟨sb, hsb⟩ : ∃ x, stB st = x := ⟨_, rfl⟩
  rw [hhc] at HH hZ
  rw [hmc] at HM hZ
  rw [hsb] at HI hZ
  clear hhc hmc hsb hH hhl hset
  generalize hs.length = hl at *
  unfold maxLen at hk hbn htn
  have HZ : Hid (_ = Z) := hZ
  clear hZ
  by_cases c1 : key.size < 1
  · have HR := HZ.out
    rw [if_pos (.inl c1)] at HR
    rw [← HR]
    clear HR HZ
    go_enter Tryz.func55, Tryz.ntmps55
    go_wp2_with fail
    go_ret
    exact ⟨rfl, HK.out.1⟩
  by_cases c2 : 500 < key.size
  · have HR := HZ.out
    rw [if_pos (.inr c2)] at HR
    rw [← HR]
    clear HR HZ
    go_enter Tryz.func55, Tryz.ntmps55
    go_wp2_with fail
    go_ret
    exact ⟨rfl, HK.out.1⟩
  rw [if_neg (by omega)] at HZ
  cases sb
  · have HR := HZ.out
    rw [if_pos (Bool.false_and _)] at HR
    rw [← HR]
    clear HR HZ
    go_enter Tryz.func55, Tryz.ntmps55
    go_wp2_with fail
    refine (HI.out _).mono ?_
    rintro r w1 ⟨rfl, rfl⟩
    go_wp2_with fail
    go_ret
    exact ⟨rfl, HK.out.1⟩
  rw [Bool.true_and] at HZ
  by_cases p1 : pins < 0
  · have HR := HZ.out
    rw [if_pos (by unfold pinB; simp; omega)] at HR
    rw [← HR]
    clear HR HZ
    go_enter Tryz.func55, Tryz.ntmps55
    go_wp2_with fail
    refine (HI.out _).mono ?_
    rintro r w1 ⟨rfl, rfl⟩
    have q12 := HK.out.2.c12
    go_wp2_with fail
    go_ret
    exact ⟨rfl, HK.out.1⟩
  by_cases p2 : 20 < pins
  · have HR := HZ.out
    rw [if_pos (by unfold pinB; simp; omega)] at HR
    rw [← HR]
    clear HR HZ
    go_enter Tryz.func55, Tryz.ntmps55
    go_wp2_with fail
    refine (HI.out _).mono ?_
    rintro r w1 ⟨rfl, rfl⟩
    have q12 := HK.out.2.c12
    go_wp2_with fail
    go_ret
    exact ⟨rfl, HK.out.1⟩
  rw [if_neg (by unfold pinB; simp; omega)] at HZ
  by_cases c3 : hcd ≠ 0
  · have HR := HZ.out
    rw [if_pos c3] at HR
    rw [← HR]
    clear HR HZ
    go_enter Tryz.func55, Tryz.ntmps55
    go_wp2_with fail
    refine (HI.out _).mono ?_
    rintro r w1 ⟨rfl, rfl⟩
    have q12 := HK.out.2.c12
    have q2 := HK.out.2.c2
    go_wp2_with fail
    refine (HH.out _ HK.out.1).mono ?_
    rintro r w2 ⟨rfl, hb2⟩
    have HB2 : Hid (Below w.heap.size w w2) := HK.out.1.trans (hb2.mono HK.out.1.size)
    clear hb2
    go_wp2_with fail
    go_ret
    exact ⟨rfl, HB2.out⟩
  rw [if_neg c3] at HZ
  have c3' : hcd = 0 := by omega
  subst c3'
  clear c3
  by_cases c4 : 2000 < bn
  · have HR := HZ.out
    rw [if_pos (.inl c4)] at HR
    rw [← HR]
    clear HR HZ
    go_enter Tryz.func55, Tryz.ntmps55
    go_wp2_with fail
    refine (HI.out _).mono ?_
    rintro r w1 ⟨rfl, rfl⟩
    have q12 := HK.out.2.c12
    have q2 := HK.out.2.c2
    go_wp2_with fail
    refine (HH.out _ HK.out.1).mono ?_
    rintro r w2 ⟨rfl, hb2⟩
    have HK2 : Hid (Below w.heap.size w w2 ∧ E13 w2 w.heap.size (.string key) (.int .i64 st) (.slice ha hl hc) (.slice ba bn bc) (.int .i64 t) (.int .i64 g) (.int .i64 l) (.int .i64 s) (.int .i64 e) (.bool b1) (.bool b2) (.slice ta tn tc) (.int .i64 pins)) := ⟨HK.out.1.trans (hb2.mono HK.out.1.size), HK.out.2.keep hb2⟩
    clear hb2
    have k3 := HK2.out.2.c3
    have k4 := HK2.out.2.c4
    have k5 := HK2.out.2.c5
    have k6 := HK2.out.2.c6
    have k7 := HK2.out.2.c7
    have k8 := HK2.out.2.c8
    have k9 := HK2.out.2.c9
    have k10 := HK2.out.2.c10
    have k11 := HK2.out.2.c11
    go_wp2_with fail
    go_ret
    exact ⟨rfl, HK2.out.1⟩
  by_cases c5 : 10 < tn
  · have HR := HZ.out
    rw [if_pos (.inr c5)] at HR
    rw [← HR]
    clear HR HZ
    go_enter Tryz.func55, Tryz.ntmps55
    go_wp2_with fail
    refine (HI.out _).mono ?_
    rintro r w1 ⟨rfl, rfl⟩
    have q12 := HK.out.2.c12
    have q2 := HK.out.2.c2
    go_wp2_with fail
    refine (HH.out _ HK.out.1).mono ?_
    rintro r w2 ⟨rfl, hb2⟩
    have HK2 : Hid (Below w.heap.size w w2 ∧ E13 w2 w.heap.size (.string key) (.int .i64 st) (.slice ha hl hc) (.slice ba bn bc) (.int .i64 t) (.int .i64 g) (.int .i64 l) (.int .i64 s) (.int .i64 e) (.bool b1) (.bool b2) (.slice ta tn tc) (.int .i64 pins)) := ⟨HK.out.1.trans (hb2.mono HK.out.1.size), HK.out.2.keep hb2⟩
    clear hb2
    have k3 := HK2.out.2.c3
    have k4 := HK2.out.2.c4
    have k5 := HK2.out.2.c5
    have k6 := HK2.out.2.c6
    have k7 := HK2.out.2.c7
    have k8 := HK2.out.2.c8
    have k9 := HK2.out.2.c9
    have k10 := HK2.out.2.c10
    have k11 := HK2.out.2.c11
    go_wp2_with fail
    go_ret
    exact ⟨rfl, HK2.out.1⟩
  rw [if_neg (by omega)] at HZ
  · rw [← HZ.out]
    clear HZ
    go_enter Tryz.func55, Tryz.ntmps55
    go_wp2_with fail
    refine (HI.out _).mono ?_
    rintro r w1 ⟨rfl, rfl⟩
    have q12 := HK.out.2.c12
    have q2 := HK.out.2.c2
    go_wp2_with fail
    refine (HH.out _ HK.out.1).mono ?_
    rintro r w2 ⟨rfl, hb2⟩
    have HK2 : Hid (Below w.heap.size w w2 ∧ E13 w2 w.heap.size (.string key) (.int .i64 st) (.slice ha hl hc) (.slice ba bn bc) (.int .i64 t) (.int .i64 g) (.int .i64 l) (.int .i64 s) (.int .i64 e) (.bool b1) (.bool b2) (.slice ta tn tc) (.int .i64 pins)) := ⟨HK.out.1.trans (hb2.mono HK.out.1.size), HK.out.2.keep hb2⟩
    clear hb2
    have k3 := HK2.out.2.c3
    have k4 := HK2.out.2.c4
    have k5 := HK2.out.2.c5
    have k6 := HK2.out.2.c6
    have k7 := HK2.out.2.c7
    have k8 := HK2.out.2.c8
    have k9 := HK2.out.2.c9
    have k10 := HK2.out.2.c10
    have k11 := HK2.out.2.c11
    go_wp2_with fail
    refine (HM.out _).mono ?_
    rintro r w3 ⟨rfl, hb3⟩
    have HB3 : Hid (Below w.heap.size w w3) := HK2.out.1.trans (hb3.mono HK2.out.1.size)
    clear hb3
    go_wp2_with fail
    go_ret
    exact ⟨rfl, HB3.out⟩
end Go.Proofs.YtmidfgjnaebfiaaGreatDoor
/-
  What an entry costs, by the program.
-/
namespace Go.Proofs.YtmidfgjnaebfiaaGreatDoor
open Go.ChangeShapes Go.WideShapes Go.ChangeAt Go.RowKit Go.Sort
theorem cfield_text (c : Int) (t : ByteArray) (w : World) : (Instr.field 189 (.agg #[.int .i64 c, .string t]) 1).run Tryz.prog w = .ok (.string t) w := by kernel_rfl
set_option maxRecDepth 100000 in
set_option maxHeartbeats 4000000 in
theorem costOne_at (w : World) (b off : Nat) (key : ByteArray) (ha : Option Addr) (hc : Nat) (hs : List Hdr) (ba : Option Addr) (bn bc : Nat) (hset : SetIs w)
    (h0 : w.cell? ⟨b, off, none⟩ = some (.string key)) (h2 : w.cell? ⟨b, off + 2, none⟩ = some (.slice ha hs.length hc)) (h3 : w.cell? ⟨b, off + 3, none⟩ = some (.slice ba bn bc))
    (hk : key.size ≤ 500) (hb : bn ≤ 2000) (hh : headsC hs = 0) (hH : HdsIn w ha hs) :
    Calls Tryz.prog 122 #[.pointer (some ⟨b, off, none⟩)] w fun r w' => r = .returned (.int .i64 (costN key hs bn)) ∧ Below w.heap.size w w' := by
  obtain ⟨h20, hfl⟩ := headsC_zero hh
  have hlen := packL_len4 hs (fun r hr => by obtain ⟨i, hi⟩ := List.mem_iff_getElem?.1 hr; exact hfl i r hi)
  have HC : Hid (∀ X, Below w.heap.size w X → Calls Tryz.prog 172 #[.slice ha hs.length hc] X fun e w' => e = .returned (.agg #[.int .i64 0, .string ⟨(packL hs).toArray⟩]) ∧ Below X.heap.size X w') := fun X hX => by
    have := implPack_any X ha hc hs (by omega) (hset.below hX) (hH.keep hX)
    rw [hh, show packT hs = ⟨(packL hs).toArray⟩ from by unfold packT; rw [if_pos hh]] at this
    exact this
  have hsz : ((⟨(packL hs).toArray⟩ : ByteArray).size : Int) = ((packL hs).length : Int) := by simp [ByteArray.size]
  unfold costN
  have hlt : b < w.heap.size := block_lt_of_cell h0
  have HKS : Hid (∀ X, Below w.heap.size w X → X.cell? ⟨b, off, none⟩ = some (.string key) ∧ X.cell? ⟨b, off + 2, none⟩ = some (.slice ha hs.length hc) ∧ X.cell? ⟨b, off + 3, none⟩ = some (.slice ba bn bc)) := fun X hX => ⟨by rw [hX.cell (p := ⟨b, off, none⟩) hlt]; exact h0, by rw [hX.cell (p := ⟨b, off + 2, none⟩) hlt]; exact h2, by rw [hX.cell (p := ⟨b, off + 3, none⟩) hlt]; exact h3⟩
  generalize hP : (⟨(packL hs).toArray⟩ : ByteArray) = pk at *
  rw [← hsz]
  have hpk : pk.size ≤ 5360 := by omega
  clear hH hfl hlen hsz hh hP h20 h2 h3 hset
  generalize hs.length = hl at *
  have hfd := cfield_text
  have e1 : IntKind.i64.wrap (50 + (key.size : Int)) = 50 + (key.size : Int) := by
    unfold IntKind.wrap; simp [IntKind.signed, IntKind.bits]; omega
  have e2 : IntKind.i64.wrap (50 + (key.size : Int) + (pk.size : Int)) = 50 + (key.size : Int) + (pk.size : Int) := by
    unfold IntKind.wrap; simp [IntKind.signed, IntKind.bits]; omega
  have e3 : IntKind.i64.wrap (50 + (key.size : Int) + (pk.size : Int) + (bn : Int)) = 50 + (key.size : Int) + (pk.size : Int) + (bn : Int) := by
    unfold IntKind.wrap; simp [IntKind.signed, IntKind.bits]; omega
  have B0 : Hid (Below w.heap.size w w.drew) := (Below.refl _ _).drew
  go_enter Tryz.func122, Tryz.ntmps122
  go_wp2_with fail
  go_region_held3 (fun X => X.cell? ⟨b, off, none⟩ = some (.string key) ∧ X.cell? ⟨b, off + 2, none⟩ = some (.slice ha hl hc) ∧ X.cell? ⟨b, off + 3, none⟩ = some (.slice ba bn bc))
    (first | exact HKS.out _ BA.out | exact HKS.out _ B0.out)
    (first | (go_at_call 172; refine (HC.out _ B0.out).mono ?_; rintro e0 wa ⟨rfl, hba⟩; have BA : Hid (Below w.heap.size w wa) := B0.out.trans (hba.mono B0.out.size); clear hba))
  all_goals
    go_wp2_with fail
    go_ret
    exact ⟨ret_int (by omega), BA.out⟩
set_option maxHeartbeats 8000000 in
theorem implCost_any (w : World) (key : ByteArray) (st : Int) (ha : Option Addr) (hc : Nat) (ba : Option Addr) (bc : Nat) (t g l s e : Int) (b1 b2 : Bool) (ta : Option Addr) (tc : Nat) (pins : Int) (hs : List Hdr) (bn tn : Nat) (hk : key.size ≤ maxLen) (hhl : hs.length ≤ 1048576) (hbn : bn ≤ maxLen) (htn : tn ≤ maxLen) (hset : SetIs w) (hH : HdsIn w ha hs) :
    Calls Tryz.prog 59 #[.agg #[.string key, .int .i64 st, .slice ha hs.length hc, .slice ba bn bc, .int .i64 t, .int .i64 g, .int .i64 l, .int .i64 s, .int .i64 e, .bool b1, .bool b2, .slice ta tn tc, .int .i64 pins]] w fun r w' => r = .returned (.agg #[.int .i64 (entryC key st pins hs bn tn t g l s e), .int .i64 (if entryC key st pins hs bn tn t g l s e = 0 then costN key hs bn else 0)]) ∧ Below w.heap.size w w' := by
  have HF : Hid (∀ X, Below w.heap.size w X → Calls Tryz.prog 55 #[.agg #[.string key, .int .i64 st, .slice ha hs.length hc, .slice ba bn bc, .int .i64 t, .int .i64 g, .int .i64 l, .int .i64 s, .int .i64 e, .bool b1, .bool b2, .slice ta tn tc, .int .i64 pins]] X fun r w' => r = .returned (.int .i64 (entryC key st pins hs bn tn t g l s e)) ∧ Below X.heap.size X w') := fun X hb => implEntry_any X key st ha hc ba bc t g l s e b1 b2 ta tc pins hs bn tn hk hhl hbn htn (hset.below hb) (hH.keep hb)
  have HC : Hid (entryC key st pins hs bn tn t g l s e = 0 → ∀ X, Below w.heap.size w X → E13 X w.heap.size (.string key) (.int .i64 st) (.slice ha hs.length hc) (.slice ba bn bc) (.int .i64 t) (.int .i64 g) (.int .i64 l) (.int .i64 s) (.int .i64 e) (.bool b1) (.bool b2) (.slice ta tn tc) (.int .i64 pins) → Calls Tryz.prog 122 #[.pointer (some ⟨w.heap.size, 0, none⟩)] X fun r w' => r = .returned (.int .i64 (costN key hs bn)) ∧ Below X.heap.size X w') := fun h0 X hb k => by
    obtain ⟨z1, _, _, z4, z5, _, _⟩ := entryC_zero h0
    exact costOne_at X w.heap.size 0 key ha hc hs ba bn bc (hset.below hb) k.c0 k.c2 k.c3 z1.2 z5 z4 (hH.keep hb)
  have K0 : Hid (Below w.heap.size w ((w.alloc (.cells #[.string key, .int .i64 st, .slice ha hs.length hc, .slice ba bn bc, .int .i64 t, .int .i64 g, .int .i64 l, .int .i64 s, .int .i64 e, .bool b1, .bool b2, .slice ta tn tc, .int .i64 pins] 32)).alloc (.cells #[.int .i64 0, .int .i64 0] 81)) ∧ E13 ((w.alloc (.cells #[.string key, .int .i64 st, .slice ha hs.length hc, .slice ba bn bc, .int .i64 t, .int .i64 g, .int .i64 l, .int .i64 s, .int .i64 e, .bool b1, .bool b2, .slice ta tn tc, .int .i64 pins] 32)).alloc (.cells #[.int .i64 0, .int .i64 0] 81)) w.heap.size (.string key) (.int .i64 st) (.slice ha hs.length hc) (.slice ba bn bc) (.int .i64 t) (.int .i64 g) (.int .i64 l) (.int .i64 s) (.int .i64 e) (.bool b1) (.bool b2) (.slice ta tn tc) (.int .i64 pins) ∧ IR ((w.alloc (.cells #[.string key, .int .i64 st, .slice ha hs.length hc, .slice ba bn bc, .int .i64 t, .int .i64 g, .int .i64 l, .int .i64 s, .int .i64 e, .bool b1, .bool b2, .slice ta tn tc, .int .i64 pins] 32)).alloc (.cells #[.int .i64 0, .int .i64 0] 81)) (w.heap.size + 1) (.int .i64 0) (.int .i64 0)) := by
    have b0 : Below w.heap.size w ((w.alloc (.cells #[.string key, .int .i64 st, .slice ha hs.length hc, .slice ba bn bc, .int .i64 t, .int .i64 g, .int .i64 l, .int .i64 s, .int .i64 e, .bool b1, .bool b2, .slice ta tn tc, .int .i64 pins] 32)).alloc (.cells #[.int .i64 0, .int .i64 0] 81)) := ((Below.refl _ _).alloc (Nat.le_refl _) _).alloc (by simp) _
    refine ⟨b0, (E13.new w _ _ _ _ _ _ _ _ _ _ _ _ _ _).keep ((Below.refl _ _).alloc (Nat.le_refl _) _), ?_⟩
    refine ⟨by simp, by simp, fun o => by simp, by simp⟩
  clear hH hk hbn htn hhl hset
  obtain ⟨fc, hfc⟩ : ∃ x, entryC key st pins hs bn tn t g l s e = x := ⟨_, rfl⟩
  rw [hfc] at HF HC ⊢
  clear hfc
  generalize hs.length = hl at *
  generalize costN key hs bn = cn at *
  by_cases c0 : fc = 0
  · subst c0
    have HC0 := HC.out rfl
    have HC1 : Hid (∀ X, Below w.heap.size w X → E13 X w.heap.size (.string key) (.int .i64 st) (.slice ha hl hc) (.slice ba bn bc) (.int .i64 t) (.int .i64 g) (.int .i64 l) (.int .i64 s) (.int .i64 e) (.bool b1) (.bool b2) (.slice ta tn tc) (.int .i64 pins) → Calls Tryz.prog 122 #[.pointer (some ⟨w.heap.size, 0, none⟩)] X fun r w' => r = .returned (.int .i64 cn) ∧ Below X.heap.size X w') := HC0
    clear HC HC0
    rw [if_pos rfl]
    go_enter Tryz.func59, Tryz.ntmps59
    go_wp2_with fail
    refine (HF.out _ K0.out.1).mono ?_
    rintro r w1 ⟨rfl, hb1⟩
    have K1 : Hid (Below w.heap.size w w1 ∧ E13 w1 w.heap.size (.string key) (.int .i64 st) (.slice ha hl hc) (.slice ba bn bc) (.int .i64 t) (.int .i64 g) (.int .i64 l) (.int .i64 s) (.int .i64 e) (.bool b1) (.bool b2) (.slice ta tn tc) (.int .i64 pins) ∧ IR w1 (w.heap.size + 1) (.int .i64 0) (.int .i64 0)) := ⟨K0.out.1.trans (hb1.mono K0.out.1.size), K0.out.2.1.keep hb1, K0.out.2.2.keep hb1⟩
    clear hb1 K0 HF
    go_wp2_with fail
    refine (HC1.out _ K1.out.1 K1.out.2.1).mono ?_
    rintro r w2 ⟨rfl, hb2⟩
    have K2 : Hid (Below w.heap.size w w2 ∧ E13 w2 w.heap.size (.string key) (.int .i64 st) (.slice ha hl hc) (.slice ba bn bc) (.int .i64 t) (.int .i64 g) (.int .i64 l) (.int .i64 s) (.int .i64 e) (.bool b1) (.bool b2) (.slice ta tn tc) (.int .i64 pins) ∧ IR w2 (w.heap.size + 1) (.int .i64 0) (.int .i64 0)) := ⟨K1.out.1.trans (hb2.mono K1.out.1.size), K1.out.2.1.keep hb2, K1.out.2.2.keep hb2⟩
    clear hb2 K1 HC1
    obtain ⟨r0, r1, rf, _⟩ := K2.out.2.2
    have rf0 := rf 0
    have rf1 := rf 1
    clear rf
    go_wp2_with fail
    refine bodyPost_ret (v := .agg #[.int .i64 0, .int .i64 cn]) ?_ rfl ⟨rfl, (K2.out.1.setCell (by simp) _).setCell (by simp) _⟩
    simp [results, Tryz.results59, go_sem, r0, r1]
  · rw [if_neg c0]
    clear HC
    go_enter Tryz.func59, Tryz.ntmps59
    go_wp2_with fail
    refine (HF.out _ K0.out.1).mono ?_
    rintro r w1 ⟨rfl, hb1⟩
    have K1 : Hid (Below w.heap.size w w1 ∧ E13 w1 w.heap.size (.string key) (.int .i64 st) (.slice ha hl hc) (.slice ba bn bc) (.int .i64 t) (.int .i64 g) (.int .i64 l) (.int .i64 s) (.int .i64 e) (.bool b1) (.bool b2) (.slice ta tn tc) (.int .i64 pins) ∧ IR w1 (w.heap.size + 1) (.int .i64 0) (.int .i64 0)) := ⟨K0.out.1.trans (hb1.mono K0.out.1.size), K0.out.2.1.keep hb1, K0.out.2.2.keep hb1⟩
    clear hb1 K0 HF
    obtain ⟨r0, r1, rf, _⟩ := K1.out.2.2
    have rf0 := rf 0
    have rf1 := rf 1
    clear rf
    go_wp2_with fail
    refine bodyPost_ret (v := .agg #[.int .i64 fc, .int .i64 0]) ?_ rfl ⟨rfl, (K1.out.1.setCell (by simp) _).setCell (by simp) _⟩
    simp [results, Tryz.results59, go_sem, r0, r1]
end Go.Proofs.YtmidfgjnaebfiaaGreatDoor
/-
  What the entries of a shelf cost together, by the program.
-/
namespace Go.Proofs.YtmidfgjnaebfiaaGreatDoor
open Go.ChangeShapes Go.WideShapes Go.ChangeAt Go.RowKit Go.Sort
theorem costOne_h (w : World) (h : Hdl) (hset : SetIs w) (ht : HThere w h) (h0 : entC h.x = 0) :
    Calls Tryz.prog 122 #[.pointer (some ⟨h.b, h.o, none⟩)] w fun r w' => r = .returned (.int .i64 (entN h.x)) ∧ Below w.heap.size w w' := by
  obtain ⟨z1, _, _, z4, z5, _, _⟩ := entryC_zero h0
  have c := ht.cells
  exact costOne_at w h.b h.o h.x.key h.r.ha h.r.hc h.x.hs h.r.ba h.x.bl.length h.r.bc hset c.1 c.2.2.1 c.2.2.2.1 z1.2 z5 z4 ht.2.h
set_option maxRecDepth 100000 in
set_option maxHeartbeats 8000000 in
theorem shSum_any (w : World) (v : Value) (base : Nat) (l : List Hdl) (ho : OwnP w base v l) (hset : SetIs w) (hl : l.length ≤ 41) (hth : ∀ h ∈ l, HThere w h) (hz : ∀ h ∈ l, entC h.x = 0) :
    Calls Tryz.prog 121 #[.agg #[v], .func (.func 122) #[] #[]] w fun e w' => e = .returned (.int .i64 (costsE (l.map Hdl.x))) ∧ Below w.heap.size w w' := by
  obtain ⟨va, vc, rfl, _, hf⟩ := ho.form
  have HC : Hid (∀ (k : Nat) h, l[k]? = some h → ∃ g, va = some ⟨g, 0, none⟩ ∧ g < w.heap.size ∧ w.cell? ⟨g, k, none⟩ = some (.pointer (some ⟨h.b, h.o, none⟩))) := fun k h hk => by
    rcases hf with rfl | ⟨g, e, _, hg, hc⟩
    · simp at hk
    · exact ⟨g, e, hg, hc k h hk⟩
  have HT : Hid (∀ X, Below w.heap.size w X → ∀ h ∈ l, Calls Tryz.prog 122 #[.pointer (some ⟨h.b, h.o, none⟩)] X fun r w' => r = .returned (.int .i64 (entN h.x)) ∧ Below X.heap.size X w') := fun X hX h hh => costOne_h X h (hset.below hX) ((hth h hh).keep hX) (hz h hh)
  have HZ : Hid (∀ h ∈ l, entC h.x = 0) := hz
  clear hf ho hth hz hset
  obtain ⟨S, hS⟩ : ∃ S, Hid (costsE (l.map Hdl.x) = S) := ⟨_, rfl⟩
  rw [hS.out]
  generalize hn : l.length = n at *
  have HN : Hid (l.length = n) := hn
  clear hn
  have B0 : Hid (Below w.heap.size w (w.alloc (.cells #[.slice va n vc] 104))) := (Below.refl _ _).alloc (Nat.le_refl _) _
  go_enter Tryz.func121, Tryz.ntmps121
  go_wp2_with fail
  go_loopw [5, 11] (fun x i wr => ∃ (k : Nat) (c : Int), k ≤ n ∧ i = .int .i64 k ∧ x = .int .i64 c ∧ 0 ≤ c ∧ c ≤ 8000 * k ∧ S = c + costsE ((l.map Hdl.x).drop k) ∧ Below w.heap.size w wr) (fun _ i _ => n - (intOf i).toNat)
  case atStart => exact ⟨0, 0, Nat.zero_le _, rfl, rfl, by omega, by omega, by rw [← hS.out]; simp, B0.out⟩
  case round =>
    obtain ⟨k, c, hk, rfl, rfl, c2, c3, hs, hb⟩ := hrel
    have HS : Hid (S = c + costsE ((l.map Hdl.x).drop k)) := hs
    clear hs hS B0
    by_cases hlt : k < n
    · obtain ⟨q, hr⟩ : ∃ r, l[k]? = some r := ⟨l[k]'(by have := HN.out; omega), List.getElem?_eq_getElem _⟩
      obtain ⟨g', rfl, hg, hc⟩ := HC.out k q hr
      have p1 : wr.cell? ⟨g', k, none⟩ = some (.pointer (some ⟨q.b, q.o, none⟩)) := by rw [hb.cell (p := ⟨g', k, none⟩) hg]; exact hc
      have hle := entN_le (HZ.out q (List.mem_of_getElem? hr))
      have HS2 : Hid (S = c + entN q.x + costsE ((l.map Hdl.x).drop (k + 1))) := by
        show _ = _
        obtain ⟨hk2, hr2⟩ := List.getElem?_eq_some_iff.1 hr
        rw [HS.out, List.drop_eq_getElem_cons (i := k) (by simpa using hk2), costsE]
        simp [hr2]
        omega
      have C : Hid (Calls Tryz.prog 122 #[.pointer (some ⟨q.b, q.o, none⟩)] wr fun r w' => r = .returned (.int .i64 (entN q.x)) ∧ Below wr.heap.size wr w') := HT.out wr hb q (List.mem_of_getElem? hr)
      have g : (k : Int) < n := by omega
      have g0 : (0 : Int) ≤ k := by omega
      have HB : Hid (Below w.heap.size w wr) := hb
      clear HS hr hc hb HC HT HZ hg
      generalize entN q.x = en at *
      have e1 : IntKind.i64.wrap (c + en) = c + en := by
        unfold IntKind.wrap; simp [IntKind.signed, IntKind.bits]; omega
      go_wp2_with fail
      refine C.out.mono ?_
      rintro r w2 ⟨rfl, hb2⟩
      have HB2 : Hid (Below w.heap.size w w2) := HB.out.trans (hb2.mono HB.out.size)
      clear hb2 C HB p1
      go_wp2_with fail
      go_roundw
      case rel => exact ⟨k + 1, c + en, by omega, by go_num, by first | rfl | rw [e1], by omega, by omega, HS2.out, HB2.out⟩
      case measure => simp [intOf]; omega
    · have HF : Hid (S = c) := by
        show _ = _
        rw [HS.out, List.drop_of_length_le (by have := HN.out; simp; omega), costsE]
        omega
      clear HS
      go_wp2_with fail
      go_ret
      exact ⟨ret_int HF.out.symm, hb⟩
set_option maxRecDepth 100000 in
set_option maxHeartbeats 8000000 in
theorem shCost_any (w : World) (v1 v2 : Value) (base : Nat) (l1 l2 : List Hdl) (h : TwoP w base v1 v2 l1 l2) (hset : SetIs w) (hl : l1.length + l2.length ≤ 41) (hth : ∀ h ∈ l1 ++ l2, HThere w h) (hz : ∀ h ∈ l1 ++ l2, entC h.x = 0) :
    Calls Tryz.prog 120 #[.agg #[v1, v2]] w fun e w' => e = .returned (.int .i64 (costsE ((l1 ++ l2).map Hdl.x))) ∧ Below w.heap.size w w' := by
  obtain ⟨a1, k1, e1, _⟩ := h.a.form
  obtain ⟨a2, k2, e2, _⟩ := h.b.form
  obtain ⟨W, hW⟩ : ∃ W, W = w.alloc (.cells #[v1, v2] 106) := ⟨_, rfl⟩
  have HW : Hid (W = w.alloc (.cells #[v1, v2] 106)) := hW
  have bW : Below w.heap.size w W := by rw [hW]; exact (Below.refl _ _).alloc (Nat.le_refl _) _
  have q0 := cell_regrown (show W.cell? ⟨w.heap.size, 0, none⟩ = some v1 by rw [hW]; simp)
  have q1 := cell_regrown (show W.cell? ⟨w.heap.size, 1, none⟩ = some v2 by rw [hW]; simp)
  have cA : ∀ d os, Calls Tryz.prog 121 #[.agg #[v1], .func (.func 122) #[] #[]] (grow (redrawn W d) os) fun e w'' => e = .returned (.int .i64 (costsE (l1.map Hdl.x))) ∧ ∃ p : Regrown, w'' = grow (redrawn W p.d) p.os := fun d os => by
    have b := bW.trans ((below_regrown W d os).mono bW.size)
    exact Calls.regrown_of (shSum_any _ v1 base l1 (h.a.below b) (hset.below b) (by omega) (fun x hx => (hth x (List.mem_append_left _ hx)).keep b) (fun x hx => hz x (List.mem_append_left _ hx)))
  have cB : ∀ d os, Calls Tryz.prog 121 #[.agg #[v2], .func (.func 122) #[] #[]] (grow (redrawn W d) os) fun e w'' => e = .returned (.int .i64 (costsE (l2.map Hdl.x))) ∧ ∃ p : Regrown, w'' = grow (redrawn W p.d) p.os := fun d os => by
    have b := bW.trans ((below_regrown W d os).mono bW.size)
    exact Calls.regrown_of (shSum_any _ v2 base l2 (h.b.below b) (hset.below b) (by omega) (fun x hx => (hth x (List.mem_append_right _ hx)).keep b) (fun x hx => hz x (List.mem_append_right _ hx)))
  have n1 := costsE_le (l1.map Hdl.x) (fun x hx => by obtain ⟨y, hy, rfl⟩ := List.mem_map.1 hx; exact hz y (List.mem_append_left _ hy))
  have n2 := costsE_le (l2.map Hdl.x) (fun x hx => by obtain ⟨y, hy, rfl⟩ := List.mem_map.1 hx; exact hz y (List.mem_append_right _ hy))
  rw [List.length_map] at n1 n2
  rw [List.map_append, costsE_app]
  have HB : Hid (Below w.heap.size w W) := bW
  clear hW bW h hth hz hset
  generalize costsE (l1.map Hdl.x) = s1 at *
  generalize costsE (l2.map Hdl.x) = s2 at *
  have ew : IntKind.i64.wrap (s1 + s2) = s1 + s2 := by
    unfold IntKind.wrap; simp [IntKind.signed, IntKind.bits]; omega
  subst e1
  subst e2
  go_enter Tryz.func120, Tryz.ntmps120
  go_wp2_with fail
  rw [← HW.out]
  refine wp_region_quiet_below (by kernel_rfl) (by kernel_rfl) ?_
  repeat (go_big_quiet_step (first | (go_at_call 121; with_reducible exact cA _ _) | (go_at_call 121; with_reducible exact cB _ _)))
  refine wpQuiet_nil ?_
  intro w2 hw2
  have hbb : Below w.heap.size w w2 := by
    obtain ⟨⟨d, os⟩, rfl⟩ := hw2
    exact HB.out.trans ((below_regrown W d os).mono HB.out.size)
  clear hw2 cA cB q0 q1 HW
  go_wp2_with fail
  go_ret
  exact ⟨rfl, hbb⟩
end Go.Proofs.YtmidfgjnaebfiaaGreatDoor
/-
  Has a key come twice? By the program, with a map.
-/
namespace Go.Proofs.YtmidfgjnaebfiaaGreatDoor
open Go.ChangeShapes Go.WideShapes Go.ChangeAt Go.RowKit Go.Maps
open Go.WideMaps (keyOf_string_mk)
/-- Block B is a map that has just the keys K. -/
def KeyMap (w : World) (B : Nat) (K : List ByteArray) : Prop :=
  ∃ D : DataW Unit, w.ownsMap Tryz.prog 9 (plainElem Tryz.prog 3) B K.length D ∧ (∀ x : ByteArray, Maps.has D (keyL x) = true ↔ x ∈ K) ∧ (K.Nodup → Maps.size D = K.length) ∧ (¬ K.Nodup → Maps.size D < K.length)
theorem KeyMap.lt {w : World} {B : Nat} {K : List ByteArray} (h : KeyMap w B K) : B < w.heap.size := by
  obtain ⟨D, h, _⟩ := h
  exact h.lt
theorem KeyMap.below {w w' : World} {B : Nat} {K : List ByteArray} (h : KeyMap w B K) (hb : Below w.heap.size w w') : KeyMap w' B K := by
  have hl := h.lt
  obtain ⟨D, ⟨es, clock, hh, r⟩, h2⟩ := h
  exact ⟨D, ⟨es, clock, by rw [hb.block B hl]; exact hh, r⟩, h2⟩
theorem KeyMap.made (w : World) : KeyMap (w.alloc (.map #[] 0)) w.heap.size [] :=
  ⟨.map [], World.ownsMap_made w _ _ _, fun x => by simp [Maps.has], fun _ => rfl, fun h => absurd List.nodup_nil h⟩
section
variable {ops : Array Oper} {rest : List Oper} {o : Oper} {a : Act} {Q : Exit → Act → World → Prop}
theorem wpList_putK (w : World) (hg : o.guard = none) (m x v : Operand) (hop : o.op = Op.mapUpdate 187 m x v) (B : Nat) (K : List ByteArray)
    (hm : a.eval m = .map (some B)) (hown : KeyMap w B K) (hn : K.length ≤ 1048576) (key : ByteArray) (hx : a.eval x = .string key) (hk : key.size ≤ maxLen) (i : Nat) (hi : i ≤ 1048576) (hv : a.eval v = .int .i64 (i : Int)) (base : Nat) (hbase : base ≤ B)
    (hK : ∀ w', KeyMap w' B (K ++ [key]) → Below base w w' → wpList Tryz.prog ops Q rest (a.put o.dst undef) w') : wpList Tryz.prog ops Q (o :: rest) a w := by
  obtain ⟨D, hD, hat, hs1, hs2⟩ := hown
  refine wpList_mapUpdate_in w hg m x v 187 hop 9 3 hkeyed Tryz.underlying187 _ B K.length D hm hD (by unfold maxLen; omega) _ _ (keyL key) hx hv (keyOf_string_mk Tryz.underlying9 hk) (.lit (.int .i64 (i : Int))) [] (plainElem_int Tryz.underlying3 (WalkArith.wf_i64 (by omega))) ?_
  intro w' hD' ht
  have hsz := size_put (k := keyL key) (hD.tidy hkeyed) (.lit (.int .i64 (i : Int)))
  have hle := hD.size_le
  have hlen : (K ++ [key]).length = K.length + 1 := by simp
  refine hK w' ⟨_, by rw [hlen]; exact hD', fun y => ?_, fun hnd => ?_, fun hnd => ?_⟩ (turned_below ht hbase)
  · rcases Classical.em (y = key) with e | e
    · subst e
      rw [has_put_same (k := keyL y) hD.isMap (isKeyL y) _]
      simp
    · rw [has_put_other (keyL_ne e), hat y]
      simp [e]
  · have h2 := List.nodup_append.1 hnd
    have hnot : ¬ key ∈ K := fun hmem => h2.2.2 key hmem key (by simp) rfl
    have hf : Maps.has D (keyL key) = false := by
      cases c : Maps.has D (keyL key)
      · rfl
      · exact absurd ((hat key).1 c) hnot
    rw [hsz, hf, hs1 h2.1, hlen]
    rfl
  · rw [hsz, hlen]
    rcases Classical.em (key ∈ K) with hmem | hmem
    · rw [(hat key).2 hmem]
      simp only [if_true]
      omega
    · have hf : Maps.has D (keyL key) = false := by
        cases c : Maps.has D (keyL key)
        · rfl
        · exact absurd ((hat key).1 c) hmem
      rw [hf]
      have hn2 : ¬ K.Nodup := fun hnk => hnd (List.nodup_append.2 ⟨hnk, by simp, fun a ha b hb => by simp only [List.mem_singleton] at hb; subst hb; exact fun e => hmem (e ▸ ha)⟩)
      have := hs2 hn2
      simp only [Bool.false_eq_true, if_false]
      omega
end
theorem keys_nodup (l : List Ent) : (l.map Ent.key).Nodup ↔ (keysE l).Nodup := by
  have e : keysE l = (l.map Ent.key).map ByteArray.toList := by simp [keysE]
  rw [e]
  have inj : ∀ a b : ByteArray, a.toList = b.toList → a = b := fun a b h => by
    rw [ByteArray.toList_eq, ByteArray.toList_eq] at h
    exact ByteArray.ext (Array.ext' h)
  constructor
  · intro h
    exact List.Pairwise.map _ (fun a b hab hc => hab (inj a b hc)) h
  · intro h
    exact List.Pairwise.of_map _ (fun a b hab hc => hab (by rw [hc])) h
set_option maxRecDepth 100000 in
set_option maxHeartbeats 8000000 in
theorem keyTwice_any (w : World) (v : Value) (base : Nat) (l : List Hdl) (ho : OwnP w base v l) (hl : l.length ≤ 1000000) (hth : ∀ h ∈ l, HThere w h) (hz : ∀ h ∈ l, h.x.key.size ≤ maxLen) :
    Calls Tryz.prog 119 #[v] w fun e w' => e = .returned (.bool (dupE (l.map Hdl.x))) ∧ Below w.heap.size w w' := by
  obtain ⟨va, vc, rfl, _, hf⟩ := ho.form
  have HC : Hid (∀ X, Below w.heap.size w X → ∀ (k : Nat) h, l[k]? = some h → ∃ g, va = some ⟨g, 0, none⟩ ∧ X.cell? ⟨g, k, none⟩ = some (.pointer (some ⟨h.b, h.o, none⟩)) ∧ X.cell? ⟨h.b, h.o, none⟩ = some (.string h.x.key) ∧ h.x.key.size ≤ maxLen) := fun X hX k h hk => by
    rcases hf with rfl | ⟨g, e, _, hg, hc⟩
    · simp at hk
    · have t := ((hth h (List.mem_of_getElem? hk)).keep hX).cells.1
      exact ⟨g, e, by rw [hX.cell (p := ⟨g, k, none⟩) hg]; exact hc k h hk, t, hz h (List.mem_of_getElem? hk)⟩
  clear hf ho hth hz
  obtain ⟨S, hS⟩ : ∃ S, Hid (dupE (l.map Hdl.x) = S) := ⟨_, rfl⟩
  rw [hS.out]
  generalize hn : l.length = n at *
  have HN : Hid (l.length = n) := hn
  clear hn
  have B0 : Hid (Below w.heap.size w (w.alloc (.map #[] 0))) := (Below.refl _ _).alloc (Nat.le_refl _) _
  have M0 : Hid (KeyMap (w.alloc (.map #[] 0)) w.heap.size []) := KeyMap.made w
  have hmm := @run_makeMap Tryz.prog
  go_enter Tryz.func119, Tryz.ntmps119
  go_wp2_with fail
  go_loopw [9] (fun i wr => ∃ k : Nat, k ≤ n ∧ i = .int .i64 k ∧ KeyMap wr w.heap.size ((l.map (fun h => h.x.key)).take k) ∧ Below w.heap.size w wr) (fun i _ => n - (intOf i).toNat)
  case atStart => exact ⟨0, Nat.zero_le _, rfl, M0.out, B0.out⟩
  case round =>
    obtain ⟨k, hk, rfl, hm, hb⟩ := hrel
    have HM : Hid (KeyMap wr w.heap.size ((l.map (fun h => h.x.key)).take k)) := hm
    clear hm M0 B0
    have HB : Hid (Below w.heap.size w wr) := hb
    by_cases hlt : k < n
    · obtain ⟨q, hr⟩ : ∃ r, l[k]? = some r := ⟨l[k]'(by have := HN.out; omega), List.getElem?_eq_getElem _⟩
      obtain ⟨g', rfl, hc, hc2, hks⟩ := HC.out _ hb k q hr
      have HK2 : Hid ((l.map (fun h => h.x.key)).take k ++ [q.x.key] = (l.map (fun h => h.x.key)).take (k + 1)) := by
        show _ = _
        obtain ⟨hk2, hr2⟩ := List.getElem?_eq_some_iff.1 hr
        rw [List.take_succ_eq_append_getElem (by simpa using hk2)]
        simp [hr2]
      have HLN : Hid (((l.map (fun h => h.x.key)).take k).length ≤ 1048576) := by
        show _ ≤ _
        rw [List.length_take, List.length_map, HN.out]
        omega
      have g : (k : Int) < n := by omega
      have g0 : (0 : Int) ≤ k := by omega
      clear hr hb HC
      generalize q.x.key = qk at *
      go_wp2_with (at_mapUpdate; refine wpList_putK _ rfl (.tmp 14) (.tmp 18) (.tmp 19) rfl w.heap.size _ rfl HM.out HLN.out qk rfl hks k (by omega) rfl w.heap.size (Nat.le_refl _) ?_; intro w' hm' hb')
      rw [HK2.out] at hm'
      go_wp2_with fail
      go_roundw
      case rel => exact ⟨k + 1, by omega, by go_num, hm', HB.out.trans hb'⟩
      case measure => simp [intOf]; omega
    · have hkn : k = n := by omega
      subst hkn
      obtain ⟨D, hD, _, hs1, hs2⟩ := HM.out
      have e : (l.map (fun h => h.x.key)).take k = (l.map Hdl.x).map Ent.key := by
        rw [List.take_of_length_le (by have := HN.out; simp; omega)]
        simp
      rw [e] at hs1 hs2
      have hlen : ((l.map Hdl.x).map Ent.key).length = k := by have := HN.out; simp; exact this
      have HE : Hid (decide (Maps.size D < k) = S) := by
        show _ = _
        rw [← hS.out]
        unfold dupE
        by_cases hd : (keysE (l.map Hdl.x)).Nodup
        · have := hs1 ((keys_nodup _).2 hd)
          rw [decide_eq_true hd]
          simp
          omega
        · have := hs2 (fun h => hd ((keys_nodup _).1 h))
          rw [decide_eq_false hd]
          simp
          omega
      have HD : Hid (wr.ownsMap Tryz.prog 9 (plainElem Tryz.prog 3) w.heap.size ((l.map (fun h => h.x.key)).take k).length D) := hD
      clear hD hs1 hs2 e HM hb
      go_wp2_with (at_len; refine wpList_len_own _ rfl (.tmp 21) 187 rfl 9 3 Tryz.underlying187 _ w.heap.size _ D rfl HD.out ?_)
      go_ret
      exact ⟨ret_bool HE.out, HB.out⟩
end Go.Proofs.YtmidfgjnaebfiaaGreatDoor
/-
  All entries of a store, by the model.
-/
namespace Go.Proofs.YtmidfgjnaebfiaaGreatDoor
open Go.ChangeShapes Go.WideShapes Go.ChangeAt Go.RowKit Go.Sort
set_option maxRecDepth 100000 in
set_option maxHeartbeats 8000000 in
theorem l8All_any (w : World) (S o : Nat) (ta ka : Option Addr) (tc kc : Nat) (tl kl : List (Ent × EntR)) (c2 : w.cell? ⟨S, o + 2, none⟩ = some (.slice ta tl.length tc)) (c3 : w.cell? ⟨S, o + 3, none⟩ = some (.slice ka kl.length kc)) (hl : tl.length + kl.length ≤ 1000000) (ht : EntsIn w ta tl) (hk : EntsIn w ka kl) :
    Calls Tryz.prog 123 #[.pointer (some ⟨S, o, none⟩)] w fun e w' => (∃ v, e = .returned v ∧ OwnE w' w.heap.size v (tl ++ kl)) ∧ Below w.heap.size w w' := by
  have hlt : S < w.heap.size := block_lt_of_cell c2
  have HKS : Hid (∀ X, Below w.heap.size w X → X.cell? ⟨S, o + 2, none⟩ = some (.slice ta tl.length tc) ∧ X.cell? ⟨S, o + 3, none⟩ = some (.slice ka kl.length kc)) := fun X hX => ⟨by rw [hX.cell (p := ⟨S, o + 2, none⟩) hlt]; exact c2, by rw [hX.cell (p := ⟨S, o + 3, none⟩) hlt]; exact c3⟩
  have HI : Hid (∀ X, Below w.heap.size w X → EntsIn X ta tl ∧ EntsIn X ka kl) := fun X hX => ⟨ht.keep hX, hk.keep hX⟩
  have B0 : Hid (Below w.heap.size w w.drew) := (Below.refl _ _).drew
  have B1 : Hid (Below w.heap.size w (w.drew.alloc (.cells #[] 32))) := ((Below.refl _ _).drew).alloc (Nat.le_refl _) _
  have O1 : Hid (OwnE (w.drew.alloc (.cells #[] 32)) w.heap.size (.slice (some ⟨w.heap.size, 0, none⟩) 0 0) []) := OwnE.made0 w.drew w.heap.size (Nat.le_refl _)
  clear c2 c3 ht hk
  obtain ⟨tn, htn⟩ : ∃ n, Hid (tl.length = n) := ⟨_, rfl⟩
  obtain ⟨kn, hkn⟩ : ∃ n, Hid (kl.length = n) := ⟨_, rfl⟩
  rw [htn.out, hkn.out] at HKS hl
  go_enter Tryz.func123, Tryz.ntmps123
  go_wp2_with fail
  go_region_held3 (fun X => X.cell? ⟨S, o + 2, none⟩ = some (.slice ta tn tc) ∧ X.cell? ⟨S, o + 3, none⟩ = some (.slice ka kn kc))
    (first | exact HKS.out _ BB.out | exact HKS.out _ BA.out | exact HKS.out _ B1.out | exact HKS.out _ B0.out)
    (first
    | (refine step_append_entsIn _ (by rfl) _ _ (by rfl) w.heap.size _ tl ka kc kn kl hkn.out (by rfl) OA.out (by rfl) (HI.out _ BA.out).2 (by rw [htn.out]; exact hl) BA.out.size ?_; intro v2 w2 ho2 hb2; have BB : Hid (Below w.heap.size w w2) := BA.out.trans hb2; have OB : Hid (OwnE w2 w.heap.size v2 (tl ++ kl)) := ho2; clear ho2 hb2)
    | (refine step_append_entsIn _ (by rfl) _ _ (by rfl) w.heap.size _ [] ta tc tn tl htn.out (by rfl) O1.out (by rfl) (HI.out _ B1.out).1 (by simp; omega) B1.out.size ?_; intro v1 w1 ho1 hb1; have BA : Hid (Below w.heap.size w w1) := B1.out.trans hb1; have OA : Hid (OwnE w1 w.heap.size v1 tl) := ho1; clear ho1 hb1))
  all_goals
    go_wp2_with fail
    go_ret
    exact ⟨⟨_, rfl, OB.out⟩, BB.out⟩
end Go.Proofs.YtmidfgjnaebfiaaGreatDoor
/-
  Is it a store? The specification's answer.
-/
namespace Go.Proofs.YtmidfgjnaebfiaaGreatDoor
open Go.ChangeShapes Go.WideShapes Go.ChangeAt Go.RowKit Go.Sort
/-- An entry that fits, its key too. -/
structure EntOk (x : Ent) : Prop where
  key : x.key.size ≤ maxLen
  h : x.hs.length ≤ 1048576
  b : x.bl.length ≤ maxLen
  t : x.ts.length ≤ maxLen
theorem specEntry_q (w : World) (q : Ent × EntR) (ho : EntOk q.1) (hi : EntIn w q.1 q.2) :
    Calls Tryz.prog 56 #[.agg #[.string q.1.key, .int .i64 q.1.st, .slice q.2.ha q.1.hs.length q.2.hc, .slice q.2.ba q.1.bl.length q.2.bc, .int .i64 q.1.t, .int .i64 q.1.g, .int .i64 q.1.l, .int .i64 q.1.s, .int .i64 q.1.e, .bool q.1.b1, .bool q.1.b2, .slice q.2.ta q.1.ts.length q.2.tc, .int .i64 q.1.pins]] w fun r w' => r = .returned (.int .i64 (entC q.1)) ∧ Below w.heap.size w w' :=
  specEntry_any w _ _ _ _ _ _ _ _ _ _ _ _ _ _ _ _ _ _ _ ho.key ho.h ho.b ho.t hi.h
theorem faultE_drop {l : List (Ent × EntR)} {k : Nat} {q : Ent × EntR} (h : l[k]? = some q) : faultE ((l.map Prod.fst).drop k) = if entC q.1 ≠ 0 then entC q.1 else faultE ((l.map Prod.fst).drop (k + 1)) := by
  obtain ⟨hk, rfl⟩ := List.getElem?_eq_some_iff.1 h
  rw [List.drop_eq_getElem_cons (i := k) (by simpa using hk), faultE]
  simp
theorem keys_at {l : List (Ent × EntR)} {k : Nat} {q : Ent × EntR} (h : l[k]? = some q) : (keysE (l.map Prod.fst))[k]? = some q.1.key.toList := by
  unfold keysE
  rw [List.getElem?_map, List.getElem?_map, h]
  rfl
theorem nodup_succ {K : List (List UInt8)} {k : Nat} {x : List UInt8} (h : (K.take k).Nodup) (hk : K[k]? = some x) (hn : ∀ (j : Nat) y, j < k → K[j]? = some y → ¬ x = y) : (K.take (k + 1)).Nodup := by
  obtain ⟨hlt, rfl⟩ := List.getElem?_eq_some_iff.1 hk
  rw [List.take_succ_eq_append_getElem hlt]
  refine List.nodup_append.2 ⟨h, by simp, ?_⟩
  intro a ha b hb
  simp only [List.mem_singleton] at hb
  subst hb
  obtain ⟨j, hj⟩ := List.mem_iff_getElem?.1 ha
  have hjk : j < k := by
    have := (List.getElem?_eq_some_iff.1 hj).1
    simp at this; omega
  rw [List.getElem?_take_of_lt hjk] at hj
  exact fun e => hn j a hjk hj e.symm
theorem dup_of {l : List (Ent × EntR)} {j k : Nat} {p q : Ent × EntR} (hjk : j < k) (hj : l[j]? = some p) (hk : l[k]? = some q) (e : q.1.key.toList = p.1.key.toList) : dupE (l.map Prod.fst) = true := by
  unfold dupE
  rw [Bool.not_eq_true', decide_eq_false_iff_not]
  intro hn
  have a := keys_at hj
  have b := keys_at hk
  rw [e] at b
  obtain ⟨h1, e1⟩ := List.getElem?_eq_some_iff.1 a
  obtain ⟨h2, e2⟩ := List.getElem?_eq_some_iff.1 b
  have := List.pairwise_iff_getElem.1 hn j k h1 h2 hjk
  rw [e1, e2] at this
  exact this rfl
set_option maxRecDepth 100000 in
set_option maxHeartbeats 16000000 in
theorem specSto_any (w : World) (bu gu : Int) (ta ka : Option Addr) (tc kc : Nat) (tl kl : List (Ent × EntR)) (hl : tl.length ≤ 1048576) (hk : kl.length ≤ 1048576) (hto : ∀ q ∈ tl ++ kl, EntOk q.1) (ht : EntsIn w ta tl) (hq : EntsIn w ka kl) :
    Calls Tryz.prog 54 #[.agg #[.int .i64 bu, .int .i64 gu, .slice ta tl.length tc, .slice ka kl.length kc]] w fun r w' => r = .returned (.int .i64 (storeC bu gu (tl.map Prod.fst) (kl.map Prod.fst))) ∧ Below w.heap.size w w' := by
  obtain ⟨W, hW⟩ : ∃ W, W = w.alloc (.cells #[.int .i64 bu, .int .i64 gu, .slice ta tl.length tc, .slice ka kl.length kc] 38) := ⟨_, rfl⟩
  have HW : Hid (W = w.alloc (.cells #[.int .i64 bu, .int .i64 gu, .slice ta tl.length tc, .slice ka kl.length kc] 38)) := hW
  have K0 : Hid (Below w.heap.size w W ∧ S4 W w.heap.size (.int .i64 bu) (.int .i64 gu) (.slice ta tl.length tc) (.slice ka kl.length kc)) := by
    rw [hW]; exact ⟨(Below.refl _ _).alloc (Nat.le_refl _) _, S4.new w _ _ _ _ _⟩
  have HI1 : Hid (∀ w, Calls Tryz.prog 102 #[.int .i64 bu, .int .i64 0, .int .i64 1000000] w fun r w' => r = .returned (.bool (decide (0 ≤ bu) && decide (bu ≤ 1000000))) ∧ w' = w) := l1In_all bu 0 1000000
  have HI2 : Hid (∀ w, Calls Tryz.prog 102 #[.int .i64 gu, .int .i64 0, .int .i64 bu] w fun r w' => r = .returned (.bool (decide (0 ≤ gu) && decide (gu ≤ bu))) ∧ w' = w) := l1In_all gu 0 bu
  obtain ⟨Z, hZ⟩ : ∃ Z, storeC bu gu (tl.map Prod.fst) (kl.map Prod.fst) = Z := ⟨_, rfl⟩
  rw [hZ]
  unfold storeC at hZ
  rw [← List.map_append, List.length_map, List.length_map] at hZ
  have HZ : Hid (_ = Z) := hZ
  have HALL : Hid (tl.length + kl.length ≤ 40 → Calls Tryz.prog 123 #[.pointer (some ⟨w.heap.size, 0, none⟩)] W fun e w' => (∃ v, e = .returned v ∧ OwnE w' W.heap.size v (tl ++ kl)) ∧ Below W.heap.size W w') := fun h40 => l8All_any W w.heap.size 0 ta ka tc kc tl kl K0.out.2.c2 K0.out.2.c3 (by omega) (ht.keep K0.out.1) (hq.keep K0.out.1)
  have HIN : Hid (∀ X, Below w.heap.size w X → (∀ q ∈ tl ++ kl, EntIn X q.1 q.2) ∧ EntsIn X ka kl) := fun X hX => by
    refine ⟨fun q hq' => ?_, hq.keep hX⟩
    rcases List.mem_append.1 hq' with h | h
    · rcases ht.keep hX with e | ⟨b, off, _, hat⟩
      · subst e; simp at h
      · obtain ⟨i, hi⟩ := List.mem_iff_getElem?.1 h; exact hat.in hi
    · rcases hq.keep hX with e | ⟨b, off, _, hat⟩
      · subst e; simp at h
      · obtain ⟨i, hi⟩ := List.mem_iff_getElem?.1 h; exact hat.in hi
  have HOK : Hid (∀ q ∈ tl ++ kl, EntOk q.1) := hto
  clear hZ hW ht hq hto
  have hlen : (tl ++ kl).length = tl.length + kl.length := by simp
  have HKL : Hid (∀ q ∈ kl, q ∈ tl ++ kl) := fun q hq => List.mem_append_right _ hq
  obtain ⟨al, hal⟩ : ∃ al, Hid (tl ++ kl = al) := ⟨_, rfl⟩
  rw [hal.out] at HALL HIN HOK HKL hlen
  rw [hal.out] at HZ
  clear hal
  obtain ⟨tn, htn⟩ : ∃ n, Hid (tl.length = n) := ⟨_, rfl⟩
  obtain ⟨kn, hkn⟩ : ∃ n, Hid (kl.length = n) := ⟨_, rfl⟩
  rw [htn.out, hkn.out] at K0 HZ HALL HW hlen
  rw [htn.out] at hl
  rw [hkn.out] at hk
  rw [htn.out, hkn.out]
  have HLN : Hid (al.length = tn + kn) := hlen
  clear hlen htn
  by_cases c1 : bu < 0 ∨ 1000000 < bu
  · have HR : Hid (3 = Z) := by have := HZ.out; rw [if_pos (by omega)] at this; exact this
    have e1 : (decide (0 ≤ bu) && decide (bu ≤ 1000000)) = false := by simp; omega
    rw [e1] at HI1
    clear HZ HALL HIN HOK
    go_enter Tryz.func54, Tryz.ntmps54
    go_wp2_with fail
    refine (HI1.out _).mono ?_
    rintro r w1 ⟨rfl, rfl⟩
    go_wp2_with fail
    go_ret
    exact ⟨ret_int HR.out, HW.out ▸ K0.out.1⟩
  have e1 : (decide (0 ≤ bu) && decide (bu ≤ 1000000)) = true := by simp; omega
  rw [e1] at HI1
  clear e1
  by_cases c2 : gu < 0 ∨ bu < gu
  · have HR : Hid (3 = Z) := by have := HZ.out; rw [if_pos (by omega)] at this; exact this
    have e1 : (decide (0 ≤ gu) && decide (gu ≤ bu)) = false := by simp; omega
    rw [e1] at HI2
    clear HZ HALL HIN HOK
    go_enter Tryz.func54, Tryz.ntmps54
    go_wp2_with fail
    refine (HI1.out _).mono ?_
    rintro r w1 ⟨rfl, rfl⟩
    go_wp2_with fail
    refine (HI2.out _).mono ?_
    rintro r w1 ⟨rfl, rfl⟩
    go_wp2_with fail
    go_ret
    exact ⟨ret_int HR.out, HW.out ▸ K0.out.1⟩
  have e1 : (decide (0 ≤ gu) && decide (gu ≤ bu)) = true := by simp; omega
  rw [e1] at HI2
  clear e1
  rw [if_neg (by omega)] at HZ
  have ew : IntKind.i64.wrap ((tn : Int) + (kn : Int)) = (tn : Int) + (kn : Int) := by
    unfold IntKind.wrap; simp [IntKind.signed, IntKind.bits]; omega
  by_cases c3 : 40 < tn + kn
  · have HR : Hid (2 = Z) := by have := HZ.out; rw [if_pos c3] at this; exact this
    have g3 : (40 : Int) < (tn : Int) + (kn : Int) := by omega
    clear HZ HALL HIN HOK
    go_enter Tryz.func54, Tryz.ntmps54
    go_wp2_with fail
    refine (HI1.out _).mono ?_
    rintro r w1 ⟨rfl, rfl⟩
    go_wp2_with fail
    refine (HI2.out _).mono ?_
    rintro r w1 ⟨rfl, rfl⟩
    go_wp2_with fail
    go_ret
    exact ⟨ret_int HR.out, HW.out ▸ K0.out.1⟩
  have HZ2 : Hid ((if faultE (al.map Prod.fst) ≠ 0 then faultE (al.map Prod.fst) else if dupE (al.map Prod.fst) = true then 6 else if bu < costsE (al.map Prod.fst) ∨ gu < costsE (kl.map Prod.fst) then 7 else 0) = Z) := by have := HZ.out; rw [if_neg c3] at this; exact this
  have g3 : ¬ (40 : Int) < (tn : Int) + (kn : Int) := by omega
  clear HZ
  have C0 := HALL.out (by omega)
  have CA : Hid (Calls Tryz.prog 123 #[.pointer (some ⟨w.heap.size, 0, none⟩)] W fun e w' => (∃ v, e = .returned v ∧ OwnE w' W.heap.size v al) ∧ Below W.heap.size W w') := C0
  clear HALL C0
  go_enter Tryz.func54, Tryz.ntmps54
  go_wp2_with fail
  refine (HI1.out _).mono ?_
  rintro r w1 ⟨rfl, rfl⟩
  go_wp2_with fail
  refine (HI2.out _).mono ?_
  rintro r w1 ⟨rfl, rfl⟩
  go_wp2_with fail
  rw [← HW.out]
  refine CA.out.mono ?_
  rintro r w1 ⟨⟨v, rfl, hown⟩, hb1⟩
  have hb1' := K0.out.1.trans (hb1.mono K0.out.1.size)
  obtain ⟨aa, ac, rfl, _, hae⟩ := hown.at (HIN.out _ hb1').1
  have K1 : Hid (Below w.heap.size w w1 ∧ S4 w1 w.heap.size (.int .i64 bu) (.int .i64 gu) (.slice ta tn tc) (.slice ka kn kc)) := ⟨hb1', K0.out.2.keep hb1⟩
  have HAE : Hid (EntsIn w1 aa al) := hae
  have HKI : Hid (EntsIn w1 ka kl) := (HIN.out _ hb1').2
  clear hb1 hb1' hown K0 HW CA HIN hae
  rw [HLN.out]
  obtain ⟨n, hn⟩ : ∃ n, tn + kn = n := ⟨_, rfl⟩
  rw [hn] at HLN ⊢
  have hn40 : n ≤ 40 := by omega
  have HSUM : Hid (tn + kn = n) := hn
  clear hn
  go_wp2_with fail
  go_loopw [4] (fun i wr => ∃ k : Nat, k ≤ n ∧ i = .int .i64 k ∧ faultE (al.map Prod.fst) = faultE ((al.map Prod.fst).drop k) ∧ Below w1.heap.size w1 wr) (fun i _ => n - (intOf i).toNat)
  case atStart => exact ⟨0, Nat.zero_le _, rfl, rfl, Below.refl _ _⟩
  case round =>
    obtain ⟨k, hk, rfl, hs, hb⟩ := hrel
    have HS : Hid (faultE (al.map Prod.fst) = faultE ((al.map Prod.fst).drop k)) := hs
    clear hs
    by_cases hlt : k < n
    · obtain ⟨q, hr⟩ : ∃ r, al[k]? = some r := ⟨al[k]'(by have := HLN.out; omega), List.getElem?_eq_getElem _⟩
      rcases HAE.out with h | ⟨b, off, rfl, hat⟩
      · subst h; simp at hr
      have PC := (hat.keep hb).cells hr
      have C : Hid (∀ X, Below w1.heap.size w1 X → Calls Tryz.prog 56 #[.agg #[.string q.1.key, .int .i64 q.1.st, .slice q.2.ha q.1.hs.length q.2.hc, .slice q.2.ba q.1.bl.length q.2.bc, .int .i64 q.1.t, .int .i64 q.1.g, .int .i64 q.1.l, .int .i64 q.1.s, .int .i64 q.1.e, .bool q.1.b1, .bool q.1.b2, .slice q.2.ta q.1.ts.length q.2.tc, .int .i64 q.1.pins]] X fun r w' => r = .returned (.int .i64 (entC q.1)) ∧ Below X.heap.size X w') := fun X hX => specEntry_q X q (HOK.out q (List.mem_of_getElem? hr)) ((hat.keep hX).in hr)
      have HD : Hid (faultE (al.map Prod.fst) = if entC q.1 ≠ 0 then entC q.1 else faultE ((al.map Prod.fst).drop (k + 1))) := by show _ = _; rw [HS.out, faultE_drop hr]
      have g : (k : Int) < n := by omega
      have g0 : (0 : Int) ≤ k := by omega
      have HB : Hid (Below w1.heap.size w1 wr) := hb
      have p0 := PC.1
      have p1 := PC.2.1
      have p2 := PC.2.2.1
      have p3 := PC.2.2.2.1
      have p4 := PC.2.2.2.2.1
      have p5 := PC.2.2.2.2.2.1
      have p6 := PC.2.2.2.2.2.2.1
      have p7 := PC.2.2.2.2.2.2.2.1
      have p8 := PC.2.2.2.2.2.2.2.2.1
      have p9 := PC.2.2.2.2.2.2.2.2.2.1
      have p10 := PC.2.2.2.2.2.2.2.2.2.2.1
      have p11 := PC.2.2.2.2.2.2.2.2.2.2.2.1
      have p12 := PC.2.2.2.2.2.2.2.2.2.2.2.2
      clear PC hr hat HS hb
      generalize entC q.1 = ec at *
      go_wp2_with fail
      refine (C.out _ HB.out).mono ?_
      rintro r w2 ⟨rfl, hb2⟩
      have HB2 : Hid (Below w1.heap.size w1 w2) := HB.out.trans (hb2.mono HB.out.size)
      clear hb2 C HB p0 p1 p2 p3 p4 p5 p6 p7 p8 p9 p10 p11 p12
      by_cases ce : ec = 0
      · have HE : Hid (faultE (al.map Prod.fst) = faultE ((al.map Prod.fst).drop (k + 1))) := by show _ = _; rw [HD.out, if_neg (by simpa using ce)]
        clear HD
        subst ce
        go_wp2_with fail
        go_roundw
        case rel => exact ⟨k + 1, by omega, by go_num, HE.out, HB2.out⟩
        case measure => simp [intOf]; omega
      · have HE : Hid (ec = Z) := by
          show _ = _
          have := HZ2.out
          rw [HD.out, if_pos ce, if_pos ce] at this
          exact this
        clear HD
        go_wp2_with fail
        go_ret
        exact ⟨ret_int HE.out, K1.out.1.trans (HB2.out.mono K1.out.1.size)⟩
    · have HF0 : faultE (al.map Prod.fst) = 0 := by
        rw [HS.out, List.drop_of_length_le (by have := HLN.out; simp; omega), faultE]
      have HZ3 : Hid ((if dupE (al.map Prod.fst) = true then 6 else if bu < costsE (al.map Prod.fst) ∨ gu < costsE (kl.map Prod.fst) then 7 else 0) = Z) := by
        show _ = _
        have := HZ2.out
        rw [HF0] at this
        simpa using this
      have HEC : Hid (∀ q ∈ al, entC q.1 = 0) := fun q hq => faultE_zero HF0 q.1 (List.mem_map_of_mem hq)
      have HB1 : Hid (Below w1.heap.size w1 wr) := hb
      clear HS HF0 HZ2 HOK hb
      go_wp2_with fail
      obtain ⟨wo, rfl⟩ : ∃ wo : World, wo = wr := ⟨_, rfl⟩
      go_loopw [6] (fun i wr => ∃ k : Nat, k ≤ n ∧ i = .int .i64 k ∧ ((keysE (al.map Prod.fst)).take k).Nodup ∧ Below w1.heap.size w1 wr) (fun i _ => n - (intOf i).toNat)
      case atStart => exact ⟨0, Nat.zero_le _, rfl, by simp, HB1.out⟩
      case round =>
        obtain ⟨i, hi, rfl, hnd, hbi⟩ := hrel
        have HND : Hid (((keysE (al.map Prod.fst)).take i).Nodup) := hnd
        have HBI : Hid (Below w1.heap.size w1 wr) := hbi
        clear hnd hbi HB1
        by_cases hli : i < n
        · obtain ⟨q, hr⟩ : ∃ r, al[i]? = some r := ⟨al[i]'(by have := HLN.out; omega), List.getElem?_eq_getElem _⟩
          have HQ : Hid (al[i]? = some q) := hr
          clear hr
          have gi : (i : Int) < n := by omega
          go_wp2_with fail
          obtain ⟨wp, rfl⟩ : ∃ wp : World, wp = wr := ⟨_, rfl⟩
          go_loopw [7] (fun x wr => ∃ j : Nat, j ≤ i ∧ x = .int .i64 j ∧ (∀ (j' : Nat) y, j' < j → (keysE (al.map Prod.fst))[j']? = some y → ¬ q.1.key.toList = y) ∧ Below w1.heap.size w1 wr) (fun x _ => i - (intOf x).toNat)
          case atStart => exact ⟨0, Nat.zero_le _, rfl, fun j' y h => absurd h (by omega), HBI.out⟩
          case round =>
            obtain ⟨j, hj, rfl, hne, hbj⟩ := hrel
            have HNE : Hid (∀ (j' : Nat) y, j' < j → (keysE (al.map Prod.fst))[j']? = some y → ¬ q.1.key.toList = y) := hne
            have HBJ : Hid (Below w1.heap.size w1 wr) := hbj
            clear hne HBI
            by_cases hlj : j < i
            · obtain ⟨p, hp⟩ : ∃ r, al[j]? = some r := ⟨al[j]'(by have := HLN.out; omega), List.getElem?_eq_getElem _⟩
              rcases HAE.out with h | ⟨b, off, rfl, hat⟩
              · subst h; simp at hp
              have a1 := cell_regrown ((hat.keep hbj).cells HQ.out).1
              have a2 := cell_regrown ((hat.keep hbj).cells hp).1
              have HP : Hid (al[j]? = some p) := hp
              have gj : (j : Int) < i := by omega
              have gj0 : (0 : Int) ≤ j := by omega
              have gi0 : (0 : Int) ≤ i := by omega
              have gjn : (j : Int) < n := by omega
              clear hp hat hbj
              by_cases he : q.1.key.toList = p.1.key.toList
              · have HE : Hid (6 = Z) := by
                  show _ = _
                  have := HZ3.out
                  rw [if_pos (dup_of hlj HP.out HQ.out he)] at this
                  exact this
                have e1 : (q.1.key.toList == p.1.key.toList) = true := by simp [he]
                clear he HNE
                generalize q.1.key = qk at *
                generalize p.1.key = pk at *
                go_wp2_with fail
                refine wp_region_quiet_below (by kernel_rfl) (by kernel_rfl) ?_
                repeat (go_big_quiet_step (fail))
                refine wpQuiet_nil ?_
                intro w2 hw2
                have hbb : Below w1.heap.size w1 w2 := by
                  obtain ⟨⟨d, os⟩, rfl⟩ := hw2
                  exact HBJ.out.trans ((below_regrown wr d os).mono HBJ.out.size)
                clear a1 a2 hw2
                go_wp2_with fail
                go_ret
                exact ⟨ret_int HE.out, K1.out.1.trans (hbb.mono K1.out.1.size)⟩
              · have e1 : (q.1.key.toList == p.1.key.toList) = false := by simp [he]
                have HN2 : Hid (∀ (j' : Nat) y, j' < j + 1 → (keysE (al.map Prod.fst))[j']? = some y → ¬ q.1.key.toList = y) := by
                  intro j' y h1 h2
                  by_cases e : j' = j
                  · subst e
                    rw [keys_at HP.out] at h2
                    obtain rfl := Option.some.inj h2
                    exact he
                  · exact HNE.out j' y (by omega) h2
                clear he HNE
                obtain ⟨qk, hqk⟩ : ∃ k, q.1.key = k := ⟨_, rfl⟩
                obtain ⟨pk, hpk⟩ : ∃ k, p.1.key = k := ⟨_, rfl⟩
                rw [hqk] at a1 e1
                rw [hpk] at a2 e1
                go_wp2_with fail
                refine wp_region_quiet_below (by kernel_rfl) (by kernel_rfl) ?_
                repeat (go_big_quiet_step (fail))
                refine wpQuiet_nil ?_
                intro w2 hw2
                have hbb : Below w1.heap.size w1 w2 := by
                  obtain ⟨⟨d, os⟩, rfl⟩ := hw2
                  exact HBJ.out.trans ((below_regrown wr d os).mono HBJ.out.size)
                clear a1 a2 hw2
                go_wp2_with fail
                go_roundw
                case rel => exact ⟨j + 1, by omega, by go_num, HN2.out, hbb⟩
                case measure => simp [intOf]; omega
            · have hji : j = i := by omega
              subst hji
              have HN2 : Hid (((keysE (al.map Prod.fst)).take (j + 1)).Nodup) := nodup_succ HND.out (keys_at HQ.out) HNE.out
              clear HNE hbj
              go_wp2_with fail
              go_roundw
              case rel => exact ⟨j + 1, by omega, by go_num, HN2.out, HBJ.out⟩
              case measure => simp [intOf]; omega
        · have hd : dupE (al.map Prod.fst) = false := by
            have := HND.out
            rw [List.take_of_length_le (by have := HLN.out; unfold keysE; simp; omega)] at this
            unfold dupE
            simp [this]
          have HZ4 : Hid ((if bu < costsE (al.map Prod.fst) ∨ gu < costsE (kl.map Prod.fst) then 7 else 0) = Z) := by
            show _ = _
            have := HZ3.out
            rw [hd] at this
            simpa using this
          have hbi := HBI.out
          have KK := K1.out.2.keep hbi
          have cA : ∀ d os, Calls Tryz.prog 124 #[.slice aa n ac] (grow (redrawn wr d) os) fun e w'' => e = .returned (.int .i64 (costsE (al.map Prod.fst))) ∧ ∃ p : Regrown, w'' = grow (redrawn wr p.d) p.os := fun d os => Calls.regrown_of (by
            have := l8Costs_any (grow (redrawn wr d) os) aa ac al (by rw [HLN.out]; exact hn40) (HAE.out.keep (hbi.trans ((below_regrown wr d os).mono hbi.size))) HEC.out
            rw [HLN.out] at this
            exact this)
          have cK : ∀ d os, Calls Tryz.prog 124 #[.slice ka kn kc] (grow (redrawn wr d) os) fun e w'' => e = .returned (.int .i64 (costsE (kl.map Prod.fst))) ∧ ∃ p : Regrown, w'' = grow (redrawn wr p.d) p.os := fun d os => Calls.regrown_of (by
            have hsum := HSUM.out
            have := l8Costs_any (grow (redrawn wr d) os) ka kc kl (by rw [hkn.out]; omega) (HKI.out.keep (hbi.trans ((below_regrown wr d os).mono hbi.size))) (fun q hq => HEC.out q (HKL.out q hq))
            rw [hkn.out] at this
            exact this)
          have a0 := cell_regrown KK.c0
          have a1 := cell_regrown KK.c1
          have a3 := cell_regrown KK.c3
          have HBW : Hid (Below w.heap.size w wr) := K1.out.1.trans (hbi.mono K1.out.1.size)
          clear hd HZ3 HND HBI HEC KK hbi HAE HKI HKL K1 HI1 HI2
          generalize costsE (al.map Prod.fst) = ca at *
          generalize costsE (kl.map Prod.fst) = ck at *
          by_cases d1 : bu < ca
          · have HE : Hid (7 = Z) := by have := HZ4.out; rw [if_pos (.inl d1)] at this; exact this
            clear HZ4
            go_wp2_with fail
            refine wp_region_quiet_below (by kernel_rfl) (by kernel_rfl) ?_
            repeat (go_big_quiet_step (first | (go_at_call 124; exact cA _ _)))
            refine wpQuiet_nil ?_
            intro w2 hw2
            have hbb : Below w.heap.size w w2 := by
              obtain ⟨⟨d, os⟩, rfl⟩ := hw2
              exact HBW.out.trans ((below_regrown wr d os).mono HBW.out.size)
            clear a0 a1 a3 hw2 cA cK
            go_wp2_with fail
            go_ret
            exact ⟨ret_int HE.out, hbb⟩
          have dd1 : decide (bu < ca) = false := decide_eq_false (by omega)
          by_cases d2 : gu < ck
          · have dd2 : decide (gu < ck) = true := decide_eq_true d2
            have HE : Hid (7 = Z) := by have := HZ4.out; rw [if_pos (.inr d2)] at this; exact this
            clear HZ4
            go_wp2_with fail
            refine wp_region_quiet_below (by kernel_rfl) (by kernel_rfl) ?_
            repeat (go_big_quiet_step (first | (go_at_call 124; with_reducible exact cA _ _) | (go_at_call 124; with_reducible exact cK _ _)))
            refine wpQuiet_nil ?_
            intro w2 hw2
            have hbb : Below w.heap.size w w2 := by
              obtain ⟨⟨d, os⟩, rfl⟩ := hw2
              exact HBW.out.trans ((below_regrown wr d os).mono HBW.out.size)
            clear a0 a1 a3 hw2 cA cK
            go_wp2_with fail
            go_ret
            exact ⟨ret_int HE.out, hbb⟩
          · have dd2 : decide (gu < ck) = false := decide_eq_false d2
            have HE : Hid (0 = Z) := by have := HZ4.out; rw [if_neg (by omega)] at this; exact this
            clear HZ4
            go_wp2_with fail
            refine wp_region_quiet_below (by kernel_rfl) (by kernel_rfl) ?_
            repeat (go_big_quiet_step (first | (go_at_call 124; with_reducible exact cA _ _) | (go_at_call 124; with_reducible exact cK _ _)))
            refine wpQuiet_nil ?_
            intro w2 hw2
            have hbb : Below w.heap.size w w2 := by
              obtain ⟨⟨d, os⟩, rfl⟩ := hw2
              exact HBW.out.trans ((below_regrown wr d os).mono HBW.out.size)
            clear a0 a1 a3 hw2 cA cK
            go_wp2_with fail
            go_ret
            exact ⟨ret_int HE.out, hbb⟩
end Go.Proofs.YtmidfgjnaebfiaaGreatDoor
/-
  Is it a store? The program's answer.
-/
namespace Go.Proofs.YtmidfgjnaebfiaaGreatDoor
open Go.ChangeShapes Go.WideShapes Go.ChangeAt Go.RowKit Go.Sort
theorem implEntry_h (w : World) (h : Hdl) (hset : SetIs w) (ho : EntOk h.x) (ht : HThere w h) :
    Calls Tryz.prog 55 #[.agg #[.string h.x.key, .int .i64 h.x.st, .slice h.r.ha h.x.hs.length h.r.hc, .slice h.r.ba h.x.bl.length h.r.bc, .int .i64 h.x.t, .int .i64 h.x.g, .int .i64 h.x.l, .int .i64 h.x.s, .int .i64 h.x.e, .bool h.x.b1, .bool h.x.b2, .slice h.r.ta h.x.ts.length h.r.tc, .int .i64 h.x.pins]] w fun r w' => r = .returned (.int .i64 (entC h.x)) ∧ Below w.heap.size w w' :=
  implEntry_any w _ _ _ _ _ _ _ _ _ _ _ _ _ _ _ _ _ _ _ ho.key ho.h ho.b ho.t hset ht.2.h
theorem faultE_dropH {l : List Hdl} {k : Nat} {q : Hdl} (h : l[k]? = some q) : faultE ((l.map Hdl.x).drop k) = if entC q.x ≠ 0 then entC q.x else faultE ((l.map Hdl.x).drop (k + 1)) := by
  obtain ⟨hk, rfl⟩ := List.getElem?_eq_some_iff.1 h
  rw [List.drop_eq_getElem_cons (i := k) (by simpa using hk), faultE]
  simp
set_option maxRecDepth 100000 in
set_option maxHeartbeats 16000000 in
theorem implSto_any (w : World) (bu gu : Int) (ta ka : Option Addr) (tc kc : Nat) (tl kl : List (Ent × EntR)) (hset : SetIs w) (hl : tl.length ≤ 1048576) (hk : kl.length ≤ 1048576) (hto : ∀ q ∈ tl ++ kl, EntOk q.1) (ht : EntsIn w ta tl) (hq : EntsIn w ka kl) :
    Calls Tryz.prog 53 #[.agg #[.int .i64 bu, .int .i64 gu, .slice ta tl.length tc, .slice ka kl.length kc]] w fun r w' => r = .returned (.int .i64 (storeC bu gu (tl.map Prod.fst) (kl.map Prod.fst))) ∧ Below w.heap.size w w' := by
  obtain ⟨W, hW⟩ : ∃ W, W = w.alloc (.cells #[.int .i64 bu, .int .i64 gu, .slice ta tl.length tc, .slice ka kl.length kc] 38) := ⟨_, rfl⟩
  have HW : Hid (W = w.alloc (.cells #[.int .i64 bu, .int .i64 gu, .slice ta tl.length tc, .slice ka kl.length kc] 38)) := hW
  have K0 : Hid (Below w.heap.size w W ∧ S4 W w.heap.size (.int .i64 bu) (.int .i64 gu) (.slice ta tl.length tc) (.slice ka kl.length kc)) := by
    rw [hW]; exact ⟨(Below.refl _ _).alloc (Nat.le_refl _) _, S4.new w _ _ _ _ _⟩
  obtain ⟨H1, hH1⟩ : ∃ H, hdlsA ta tl = H := ⟨_, rfl⟩
  obtain ⟨H2, hH2⟩ : ∃ H, hdlsA ka kl = H := ⟨_, rfl⟩
  have e1 : H1.map Hdl.x = tl.map Prod.fst := by rw [← hH1]; exact hdlsA_x ta tl
  have e2 : H2.map Hdl.x = kl.map Prod.fst := by rw [← hH2]; exact hdlsA_x ka kl
  have l1 : H1.length = tl.length := by rw [← hH1]; exact hdlsA_len ta tl
  have l2 : H2.length = kl.length := by rw [← hH2]; exact hdlsA_len ka kl
  have HSH : Hid (Calls Tryz.prog 72 #[.agg #[.int .i64 bu, .int .i64 gu, .slice ta tl.length tc, .slice ka kl.length kc]] W fun e w' => (∃ v1 v2, e = .returned (.agg #[v1, v2]) ∧ TwoP w' W.heap.size v1 v2 H1 H2) ∧ Below W.heap.size W w') := by
    have := shelvesOf_any W bu gu ta ka tc kc tl kl hl hk (ht.keep K0.out.1) (hq.keep K0.out.1)
    rw [hH1, hH2] at this
    exact this
  have HTH : Hid (∀ X, Below w.heap.size w X → ∀ h ∈ H1 ++ H2, HThere X h) := fun X hX h hh => by
    rcases List.mem_append.1 hh with hh | hh
    · rw [← hH1] at hh; exact hdlsA_there (ht.keep hX) h hh
    · rw [← hH2] at hh; exact hdlsA_there (hq.keep hX) h hh
  have HOK : Hid (∀ h ∈ H1 ++ H2, EntOk h.x) := fun h hh => by
    have : h.x ∈ (tl ++ kl).map Prod.fst := by
      rw [List.map_append, ← e1, ← e2, ← List.map_append]
      exact List.mem_map_of_mem hh
    obtain ⟨q, hq', e⟩ := List.mem_map.1 this
    rw [← e]
    exact hto q hq'
  have HSET : Hid (∀ X, Below w.heap.size w X → SetIs X) := fun X hX => hset.below hX
  obtain ⟨Z, hZ⟩ : ∃ Z, storeC bu gu (tl.map Prod.fst) (kl.map Prod.fst) = Z := ⟨_, rfl⟩
  rw [hZ]
  unfold storeC at hZ
  rw [← e1, ← e2, List.length_map, List.length_map, l1, l2, ← List.map_append] at hZ
  have HZ : Hid (_ = Z) := hZ
  clear hZ hW ht hq hto hH1 hH2 e1 e2 hset
  obtain ⟨tn, htn⟩ : ∃ n, tl.length = n := ⟨_, rfl⟩
  obtain ⟨kn, hkn⟩ : ∃ n, kl.length = n := ⟨_, rfl⟩
  rw [htn] at HW K0 l1 HSH HZ hl
  rw [hkn] at HW K0 l2 HSH HZ hk
  rw [htn, hkn]
  have HL1 : Hid (H1.length = tn) := l1
  have HL2 : Hid (H2.length = kn) := l2
  clear l1 l2 htn hkn
  by_cases c1 : bu < 0
  · have HR : Hid (3 = Z) := by have := HZ.out; rw [if_pos (by omega)] at this; exact this
    clear HZ HSH HTH HOK HSET
    go_enter Tryz.func53, Tryz.ntmps53
    go_wp2_with fail
    go_ret
    exact ⟨ret_int HR.out, HW.out ▸ K0.out.1⟩
  by_cases c1b : 1000000 < bu
  · have HR : Hid (3 = Z) := by have := HZ.out; rw [if_pos (by omega)] at this; exact this
    clear HZ HSH HTH HOK HSET
    go_enter Tryz.func53, Tryz.ntmps53
    go_wp2_with fail
    go_ret
    exact ⟨ret_int HR.out, HW.out ▸ K0.out.1⟩
  by_cases c2 : gu < 0
  · have HR : Hid (3 = Z) := by have := HZ.out; rw [if_pos (by omega)] at this; exact this
    clear HZ HSH HTH HOK HSET
    go_enter Tryz.func53, Tryz.ntmps53
    go_wp2_with fail
    go_ret
    exact ⟨ret_int HR.out, HW.out ▸ K0.out.1⟩
  by_cases c2b : bu < gu
  · have HR : Hid (3 = Z) := by have := HZ.out; rw [if_pos (by omega)] at this; exact this
    clear HZ HSH HTH HOK HSET
    go_enter Tryz.func53, Tryz.ntmps53
    go_wp2_with fail
    go_ret
    exact ⟨ret_int HR.out, HW.out ▸ K0.out.1⟩
  rw [if_neg (by omega)] at HZ
  have ew : IntKind.i64.wrap ((tn : Int) + (kn : Int)) = (tn : Int) + (kn : Int) := by
    unfold IntKind.wrap; simp [IntKind.signed, IntKind.bits]; omega
  by_cases c3 : 40 < tn + kn
  · have HR : Hid (2 = Z) := by have := HZ.out; rw [if_pos c3] at this; exact this
    have g3 : (40 : Int) < (tn : Int) + (kn : Int) := by omega
    clear HZ HSH HTH HOK HSET
    go_enter Tryz.func53, Tryz.ntmps53
    go_wp2_with fail
    go_ret
    exact ⟨ret_int HR.out, HW.out ▸ K0.out.1⟩
  have HZ2 : Hid ((if faultE ((H1 ++ H2).map Hdl.x) ≠ 0 then faultE ((H1 ++ H2).map Hdl.x) else if dupE ((H1 ++ H2).map Hdl.x) = true then 6 else if bu < costsE ((H1 ++ H2).map Hdl.x) ∨ gu < costsE (H2.map Hdl.x) then 7 else 0) = Z) := by have := HZ.out; rw [if_neg c3] at this; exact this
  have g3 : ¬ (40 : Int) < (tn : Int) + (kn : Int) := by omega
  clear HZ
  go_enter Tryz.func53, Tryz.ntmps53
  go_wp2_with fail
  rw [← HW.out]
  refine HSH.out.mono ?_
  rintro r w1 ⟨⟨v1, v2, rfl, h2⟩, hb1⟩
  obtain ⟨a1, k1, rfl, _⟩ := h2.a.form
  obtain ⟨a2, k2, rfl, _⟩ := h2.b.form
  rw [HL1.out, HL2.out] at h2 ⊢
  obtain ⟨V, hV⟩ : ∃ V, V = w1.alloc (.cells #[.slice a1 tn k1, .slice a2 kn k2] 106) := ⟨_, rfl⟩
  have HV : Hid (V = w1.alloc (.cells #[.slice a1 tn k1, .slice a2 kn k2] 106)) := hV
  obtain ⟨sh, hsh⟩ : ∃ sh, Hid (w1.heap.size = sh) := ⟨_, rfl⟩
  have HK : Hid (∀ X, Below V.heap.size V X → Below w.heap.size w X ∧ S4 X w.heap.size (.int .i64 bu) (.int .i64 gu) (.slice ta tn tc) (.slice ka kn kc) ∧ X.cell? ⟨sh, 0, none⟩ = some (.slice a1 tn k1) ∧ X.cell? ⟨sh, 1, none⟩ = some (.slice a2 kn k2) ∧ TwoP X W.heap.size (.slice a1 tn k1) (.slice a2 kn k2) H1 H2) := fun X hX => by
    have aV : Below w1.heap.size w1 V := by rw [hV]; exact (Below.refl _ _).alloc (Nat.le_refl _) _
    have b1 := K0.out.1.trans (hb1.mono K0.out.1.size)
    have bV := b1.trans (aV.mono b1.size)
    have hVs : w1.heap.size < V.heap.size := by rw [hV]; simp
    refine ⟨bV.trans (hX.mono bV.size), ((K0.out.2.keep hb1).keep aV).keep hX, ?_, ?_, (h2.below aV).below hX⟩
    · rw [← hsh.out, hX.cell (p := ⟨w1.heap.size, 0, none⟩) hVs, hV]; simp
    · rw [← hsh.out, hX.cell (p := ⟨w1.heap.size, 1, none⟩) hVs, hV]; simp
  clear hV h2 hb1 K0 HSH HW
  have h40 : tn + kn ≤ 40 := by omega
  have HALL : Hid (∀ X, Below V.heap.size V X → Calls Tryz.prog 118 #[.agg #[.slice a1 tn k1, .slice a2 kn k2]] X fun e w' => (∃ v, e = .returned v ∧ OwnP w' X.heap.size v (H1 ++ H2)) ∧ Below X.heap.size X w') := fun X hX => shAll_any X _ _ _ H1 H2 (HK.out X hX).2.2.2.2 (by rw [HL1.out, HL2.out]; omega)
  have HLN : Hid ((H1 ++ H2).length = tn + kn) := by show _ = _; rw [List.length_append, HL1.out, HL2.out]
  have q0 := (HK.out V (Below.refl _ _)).2.2.1
  have q1 := (HK.out V (Below.refl _ _)).2.2.2.1
  rw [HV.out, ← hsh.out] at q0 q1
  go_wp2_with fail
  rw [← HV.out]
  refine (HALL.out V (Below.refl _ _)).mono ?_
  rintro r w2 ⟨⟨v, rfl, ho⟩, hb2⟩
  obtain ⟨av, ac, rfl, _, hf⟩ := ho.form
  rw [HLN.out] at ho ⊢
  rw [hsh.out]
  have HC : Hid (∀ X, Below w2.heap.size w2 X → ∀ (k : Nat) h, (H1 ++ H2)[k]? = some h → ∃ g, av = some ⟨g, 0, none⟩ ∧ X.cell? ⟨g, k, none⟩ = some (.pointer (some ⟨h.b, h.o, none⟩))) := fun X hX k h hk => by
    rcases hf with e | ⟨g, e, _, hg, hc⟩
    · rw [e] at hk; simp at hk
    · exact ⟨g, e, by rw [hX.cell (p := ⟨g, k, none⟩) hg]; exact hc k h hk⟩
  have HB2 : Hid (Below V.heap.size V w2) := hb2
  clear q0 q1 hf ho hb2 HV hsh
  obtain ⟨n, hn⟩ : ∃ n, tn + kn = n := ⟨_, rfl⟩
  rw [hn] at HLN h40 ⊢
  clear hn
  obtain ⟨al, hal⟩ : ∃ al, H1 ++ H2 = al := ⟨_, rfl⟩
  have HSUB : Hid (∀ h ∈ H2, h ∈ al) := fun h hh => by rw [← hal]; exact List.mem_append_right _ hh
  have HAL : Hid (H1 ++ H2 = al) := hal
  rw [hal] at HTH HOK HZ2 HALL HLN HC
  clear hal
  go_wp2_with fail
  go_loopw [40] (fun i wr => ∃ k : Nat, k ≤ n ∧ i = .int .i64 k ∧ faultE (al.map Hdl.x) = faultE ((al.map Hdl.x).drop k) ∧ Below w2.heap.size w2 wr) (fun i _ => n - (intOf i).toNat)
  case atStart => exact ⟨0, Nat.zero_le _, rfl, rfl, Below.refl _ _⟩
  case round =>
    obtain ⟨k, hk', rfl, hs, hb⟩ := hrel
    have HS : Hid (faultE (al.map Hdl.x) = faultE ((al.map Hdl.x).drop k)) := hs
    clear hs
    have HBV : Hid (Below V.heap.size V wr) := HB2.out.trans (hb.mono HB2.out.size)
    by_cases hlt : k < n
    · obtain ⟨q, hr⟩ : ∃ r, al[k]? = some r := ⟨al[k]'(by have := HLN.out; omega), List.getElem?_eq_getElem _⟩
      obtain ⟨g', rfl, p⟩ := HC.out wr hb k q hr
      have hw := (HK.out wr HBV.out).1
      have hmem := List.mem_of_getElem? hr
      have PC := (HTH.out wr hw q hmem).cells
      have C : Hid (Calls Tryz.prog 55 #[.agg #[.string q.x.key, .int .i64 q.x.st, .slice q.r.ha q.x.hs.length q.r.hc, .slice q.r.ba q.x.bl.length q.r.bc, .int .i64 q.x.t, .int .i64 q.x.g, .int .i64 q.x.l, .int .i64 q.x.s, .int .i64 q.x.e, .bool q.x.b1, .bool q.x.b2, .slice q.r.ta q.x.ts.length q.r.tc, .int .i64 q.x.pins]] wr fun r w' => r = .returned (.int .i64 (entC q.x)) ∧ Below wr.heap.size wr w') := implEntry_h wr q (HSET.out wr hw) (HOK.out q hmem) (HTH.out wr hw q hmem)
      have HD : Hid (faultE (al.map Hdl.x) = if entC q.x ≠ 0 then entC q.x else faultE ((al.map Hdl.x).drop (k + 1))) := by show _ = _; rw [HS.out, faultE_dropH hr]
      have g : (k : Int) < n := by omega
      have g0 : (0 : Int) ≤ k := by omega
      have HB : Hid (Below w2.heap.size w2 wr) := hb
      have p0 := PC.1
      have p1 := PC.2.1
      have p2 := PC.2.2.1
      have p3 := PC.2.2.2.1
      have p4 := PC.2.2.2.2.1
      have p5 := PC.2.2.2.2.2.1
      have p6 := PC.2.2.2.2.2.2.1
      have p7 := PC.2.2.2.2.2.2.2.1
      have p8 := PC.2.2.2.2.2.2.2.2.1
      have p9 := PC.2.2.2.2.2.2.2.2.2.1
      have p10 := PC.2.2.2.2.2.2.2.2.2.2.1
      have p11 := PC.2.2.2.2.2.2.2.2.2.2.2.1
      have p12 := PC.2.2.2.2.2.2.2.2.2.2.2.2
      clear PC hr HS hb hw hmem
      generalize entC q.x = ec at *
      go_wp2_with fail
      refine C.out.mono ?_
      rintro r w3 ⟨rfl, hb3⟩
      have HB3 : Hid (Below w2.heap.size w2 w3) := HB.out.trans (hb3.mono HB.out.size)
      clear hb3 C HB p p0 p1 p2 p3 p4 p5 p6 p7 p8 p9 p10 p11 p12
      by_cases ce : ec = 0
      · have HE : Hid (faultE (al.map Hdl.x) = faultE ((al.map Hdl.x).drop (k + 1))) := by show _ = _; rw [HD.out, if_neg (by simpa using ce)]
        clear HD
        subst ce
        go_wp2_with fail
        go_roundw
        case rel => exact ⟨k + 1, by omega, by go_num, HE.out, HB3.out⟩
        case measure => simp [intOf]; omega
      · have HE : Hid (ec = Z) := by
          show _ = _
          have := HZ2.out
          rw [HD.out, if_pos ce, if_pos ce] at this
          exact this
        clear HD
        have HBW : Hid (Below w.heap.size w w3) := (HK.out w3 (HB2.out.trans (HB3.out.mono HB2.out.size))).1
        go_wp2_with fail
        go_ret
        exact ⟨ret_int HE.out, HBW.out⟩
    · have HF0 : faultE (al.map Hdl.x) = 0 := by
        rw [HS.out, List.drop_of_length_le (by have := HLN.out; simp; omega), faultE]
      have HZ3 : Hid ((if dupE (al.map Hdl.x) = true then 6 else if bu < costsE (al.map Hdl.x) ∨ gu < costsE (H2.map Hdl.x) then 7 else 0) = Z) := by
        show _ = _
        have := HZ2.out
        rw [HF0] at this
        simpa using this
      have HEC : Hid (∀ q ∈ al, entC q.x = 0) := fun q hq => faultE_zero HF0 q.x (List.mem_map_of_mem hq)
      clear HS HF0 HZ2 HC HB2 hb
      have q0 := (HK.out wr HBV.out).2.2.1
      have q1 := (HK.out wr HBV.out).2.2.2.1
      go_wp2_with fail
      refine (HALL.out wr HBV.out).mono ?_
      rintro r w3 ⟨⟨v, rfl, ho⟩, hb3⟩
      have HB3 : Hid (Below V.heap.size V w3) := HBV.out.trans (hb3.mono HBV.out.size)
      have hw3 := (HK.out w3 HB3.out).1
      have C3 : Hid (Calls Tryz.prog 119 #[v] w3 fun e w' => e = .returned (.bool (dupE (al.map Hdl.x))) ∧ Below w3.heap.size w3 w') := keyTwice_any w3 v _ al ho (by rw [HLN.out]; omega) (fun h hh => HTH.out w3 hw3 h hh) (fun h hh => (HOK.out h hh).key)
      clear ho hb3 hw3 q0 q1 HALL HBV
      go_wp2_with fail
      refine C3.out.mono ?_
      rintro r w4 ⟨rfl, hb4⟩
      have HB4 : Hid (Below V.heap.size V w4) := HB3.out.trans (hb4.mono HB3.out.size)
      clear hb4 C3 HB3
      have hw4 := (HK.out w4 HB4.out).1
      obtain ⟨hK1, hS4, hc0, hc1, h2⟩ := HK.out w4 HB4.out
      have HBW : Hid (Below w.heap.size w w4) := hw4
      cases hd : dupE (al.map Hdl.x)
      · rw [hd] at HZ3
        simp only [Bool.false_eq_true, if_false] at HZ3
        have cA : ∀ d os, Calls Tryz.prog 120 #[.agg #[.slice a1 tn k1, .slice a2 kn k2]] (grow (redrawn w4 d) os) fun e w'' => e = .returned (.int .i64 (costsE (al.map Hdl.x))) ∧ ∃ p : Regrown, w'' = grow (redrawn w4 p.d) p.os := fun d os => Calls.regrown_of (by
          have b := below_regrown w4 d os
          have bw := hw4.trans (b.mono hw4.size)
          have := shCost_any (grow (redrawn w4 d) os) _ _ _ H1 H2 (h2.below b) (HSET.out _ bw) (by rw [← List.length_append, HAL.out, HLN.out]; omega) (fun h hh => HTH.out _ bw h (HAL.out ▸ hh)) (fun h hh => HEC.out h (HAL.out ▸ hh))
          rw [HAL.out] at this
          exact this)
        have cK : ∀ d os, Calls Tryz.prog 121 #[.agg #[.slice a2 kn k2], .func (.func 122) #[] #[]] (grow (redrawn w4 d) os) fun e w'' => e = .returned (.int .i64 (costsE (H2.map Hdl.x))) ∧ ∃ p : Regrown, w'' = grow (redrawn w4 p.d) p.os := fun d os => Calls.regrown_of (by
          have b := below_regrown w4 d os
          have bw := hw4.trans (b.mono hw4.size)
          exact shSum_any (grow (redrawn w4 d) os) _ _ H2 (h2.b.below b) (HSET.out _ bw) (by rw [HL2.out]; have := HLN.out; rw [← HAL.out, List.length_append, HL1.out, HL2.out] at this; omega) (fun h hh => HTH.out _ bw h (HSUB.out h hh)) (fun h hh => HEC.out h (HSUB.out h hh)))
        have a0 := cell_regrown hS4.c0
        have a1' := cell_regrown hS4.c1
        have s0 := cell_regrown hc0
        have s1 := cell_regrown hc1
        clear hd HEC HTH HOK HSET HK hS4 hc0 hc1 h2 hK1 hw4 HB4 HSUB HAL HL1 HL2
        generalize costsE (al.map Hdl.x) = ca at *
        generalize costsE (H2.map Hdl.x) = ck at *
        have FIN : Hid (∀ w2', (∃ p : Regrown, w2' = grow (redrawn w4 p.d) p.os) → Below w.heap.size w w2') := fun w2' hw2 => by
          obtain ⟨⟨d, os⟩, rfl⟩ := hw2
          exact HBW.out.trans ((below_regrown w4 d os).mono HBW.out.size)
        by_cases d1 : bu < ca
        · have HE : Hid (7 = Z) := by have := HZ3.out; rw [if_pos (.inl d1)] at this; exact this
          have dd1 : decide (bu < ca) = true := decide_eq_true d1
          clear HZ3
          go_wp2_with fail
          refine wp_region_quiet_below (by kernel_rfl) (by kernel_rfl) ?_
          repeat (go_big_quiet_step (first | (go_at_call 120; with_reducible exact cA _ _) | (go_at_call 121; with_reducible exact cK _ _)))
          refine wpQuiet_nil ?_
          intro w5 hw5
          have hbb := FIN.out w5 hw5
          clear a0 a1' s0 s1 hw5 cA cK FIN
          go_wp2_with fail
          go_ret
          exact ⟨ret_int HE.out, hbb⟩
        have dd1 : decide (bu < ca) = false := decide_eq_false (by omega)
        by_cases d2 : gu < ck
        · have HE : Hid (7 = Z) := by have := HZ3.out; rw [if_pos (.inr d2)] at this; exact this
          have dd2 : decide (gu < ck) = true := decide_eq_true d2
          clear HZ3
          go_wp2_with fail
          refine wp_region_quiet_below (by kernel_rfl) (by kernel_rfl) ?_
          repeat (go_big_quiet_step (first | (go_at_call 120; with_reducible exact cA _ _) | (go_at_call 121; with_reducible exact cK _ _)))
          refine wpQuiet_nil ?_
          intro w5 hw5
          have hbb := FIN.out w5 hw5
          clear a0 a1' s0 s1 hw5 cA cK FIN
          go_wp2_with fail
          go_ret
          exact ⟨ret_int HE.out, hbb⟩
        · have HE : Hid (0 = Z) := by have := HZ3.out; rw [if_neg (by omega)] at this; exact this
          have dd2 : decide (gu < ck) = false := decide_eq_false (by omega)
          clear HZ3
          go_wp2_with fail
          refine wp_region_quiet_below (by kernel_rfl) (by kernel_rfl) ?_
          repeat (go_big_quiet_step (first | (go_at_call 120; with_reducible exact cA _ _) | (go_at_call 121; with_reducible exact cK _ _)))
          refine wpQuiet_nil ?_
          intro w5 hw5
          have hbb := FIN.out w5 hw5
          clear a0 a1' s0 s1 hw5 cA cK FIN
          go_wp2_with fail
          go_ret
          exact ⟨ret_int HE.out, hbb⟩
      · have HE : Hid (6 = Z) := by have := HZ3.out; rw [hd, if_pos rfl] at this; exact this
        clear HZ3 hd HEC HTH HOK HSET HK hS4 hc0 hc1 h2 hK1 hw4 HB4
        go_wp2_with fail
        go_ret
        exact ⟨ret_int HE.out, HBW.out⟩
end Go.Proofs.YtmidfgjnaebfiaaGreatDoor
/-
  CostIn, by the specification and by the program.
-/
namespace Go.Proofs.YtmidfgjnaebfiaaGreatDoor
open Go.ChangeShapes Go.WideShapes Go.ChangeAt Go.RowKit Go.Sort
theorem storeC_zero {bu gu : Int} {tl kl : List Ent} (h : storeC bu gu tl kl = 0) : (0 ≤ bu ∧ bu ≤ 1000000 ∧ 0 ≤ gu ∧ gu ≤ bu) ∧ tl.length + kl.length ≤ 40 ∧ faultE (tl ++ kl) = 0 ∧ dupE (tl ++ kl) = false ∧ costsE (tl ++ kl) ≤ bu ∧ costsE kl ≤ gu := by
  unfold storeC at h
  split at h
  · omega
  split at h
  · omega
  split at h
  · contradiction
  split at h
  · omega
  split at h
  · omega
  rename_i c1 c2 c3 c4 c5
  exact ⟨by omega, by omega, by omega, by simpa using c4, by omega, by omega⟩
set_option maxRecDepth 100000 in
set_option maxHeartbeats 8000000 in
theorem implCin_any (w : World) (bu gu : Int) (ta ka : Option Addr) (tc kc : Nat) (tl kl : List (Ent × EntR)) (hset : SetIs w) (hl : tl.length ≤ 1048576) (hk : kl.length ≤ 1048576) (hto : ∀ q ∈ tl ++ kl, EntOk q.1) (ht : EntsIn w ta tl) (hq : EntsIn w ka kl) :
    Calls Tryz.prog 57 #[.agg #[.int .i64 bu, .int .i64 gu, .slice ta tl.length tc, .slice ka kl.length kc]] w fun r w' => r = .returned (.agg #[.int .i64 (storeC bu gu (tl.map Prod.fst) (kl.map Prod.fst)), .int .i64 (if storeC bu gu (tl.map Prod.fst) (kl.map Prod.fst) = 0 then costsE (tl.map Prod.fst ++ kl.map Prod.fst) else 0)]) ∧ Below w.heap.size w w' := by
  have HF : Hid (∀ X, Below w.heap.size w X → Calls Tryz.prog 53 #[.agg #[.int .i64 bu, .int .i64 gu, .slice ta tl.length tc, .slice ka kl.length kc]] X fun r w' => r = .returned (.int .i64 (storeC bu gu (tl.map Prod.fst) (kl.map Prod.fst))) ∧ Below X.heap.size X w') := fun X hb => implSto_any X bu gu ta ka tc kc tl kl (hset.below hb) hl hk hto (ht.keep hb) (hq.keep hb)
  have HC : Hid (storeC bu gu (tl.map Prod.fst) (kl.map Prod.fst) = 0 → ∀ X, Below w.heap.size w X → Calls Tryz.prog 72 #[.agg #[.int .i64 bu, .int .i64 gu, .slice ta tl.length tc, .slice ka kl.length kc]] X fun e w' => (∃ v1 v2, e = .returned (.agg #[v1, v2]) ∧ Calls Tryz.prog 120 #[.agg #[v1, v2]] w' fun e w'' => e = .returned (.int .i64 (costsE (tl.map Prod.fst ++ kl.map Prod.fst))) ∧ Below w'.heap.size w' w'') ∧ Below X.heap.size X w') := fun h0 X hb => by
    obtain ⟨_, z2, z3, _, _, _⟩ := storeC_zero h0
    rw [List.length_map, List.length_map] at z2
    refine (shelvesOf_any X bu gu ta ka tc kc tl kl hl hk (ht.keep hb) (hq.keep hb)).mono ?_
    rintro e w' ⟨⟨v1, v2, rfl, h2⟩, hb'⟩
    have hbb := hb.trans (hb'.mono hb.size)
    have em : (hdlsA ta tl ++ hdlsA ka kl).map Hdl.x = tl.map Prod.fst ++ kl.map Prod.fst := by rw [List.map_append, hdlsA_x, hdlsA_x]
    have C := shCost_any w' v1 v2 _ _ _ h2 (hset.below hbb) (by rw [hdlsA_len, hdlsA_len]; omega) (fun h hh => by
      rcases List.mem_append.1 hh with hh | hh
      · exact hdlsA_there (ht.keep hbb) h hh
      · exact hdlsA_there (hq.keep hbb) h hh) (fun h hh => faultE_zero z3 h.x (by rw [← em]; exact List.mem_map_of_mem hh))
    rw [em] at C
    exact ⟨⟨v1, v2, rfl, C⟩, hb'⟩
  obtain ⟨W, hW⟩ : ∃ W, W = (w.alloc (.cells #[.int .i64 bu, .int .i64 gu, .slice ta tl.length tc, .slice ka kl.length kc] 38)).alloc (.cells #[.int .i64 0, .int .i64 0] 81) := ⟨_, rfl⟩
  have HW : Hid (W = (w.alloc (.cells #[.int .i64 bu, .int .i64 gu, .slice ta tl.length tc, .slice ka kl.length kc] 38)).alloc (.cells #[.int .i64 0, .int .i64 0] 81)) := hW
  have K0 : Hid (Below w.heap.size w W ∧ S4 W w.heap.size (.int .i64 bu) (.int .i64 gu) (.slice ta tl.length tc) (.slice ka kl.length kc) ∧ IR W (w.heap.size + 1) (.int .i64 0) (.int .i64 0)) := by
    rw [hW]
    refine ⟨((Below.refl _ _).alloc (Nat.le_refl _) _).alloc (by simp) _, (S4.new w _ _ _ _ _).keep ((Below.refl _ _).alloc (Nat.le_refl _) _), ⟨by simp, by simp, fun o => by simp, by simp⟩⟩
  clear hW hto ht hq hset
  obtain ⟨c, hc⟩ : ∃ c, storeC bu gu (tl.map Prod.fst) (kl.map Prod.fst) = c := ⟨_, rfl⟩
  rw [hc] at HF HC ⊢
  clear hc
  generalize costsE (tl.map Prod.fst ++ kl.map Prod.fst) = cn at *
  generalize tl.length = tn at *
  generalize kl.length = kn at *
  by_cases c0 : c = 0
  · subst c0
    have HC1 := HC.out rfl
    rw [if_pos rfl]
    clear HC
    go_enter Tryz.func57, Tryz.ntmps57
    go_wp2_with fail
    rw [← HW.out]
    refine (HF.out _ K0.out.1).mono ?_
    rintro r w1 ⟨rfl, hb1⟩
    have K1 : Hid (Below w.heap.size w w1 ∧ S4 w1 w.heap.size (.int .i64 bu) (.int .i64 gu) (.slice ta tn tc) (.slice ka kn kc) ∧ IR w1 (w.heap.size + 1) (.int .i64 0) (.int .i64 0)) := ⟨K0.out.1.trans (hb1.mono K0.out.1.size), K0.out.2.1.keep hb1, K0.out.2.2.keep hb1⟩
    clear hb1 K0 HF HW
    have q0 := K1.out.2.1.c0
    have q1 := K1.out.2.1.c1
    have q2 := K1.out.2.1.c2
    have q3 := K1.out.2.1.c3
    go_wp2_with fail
    refine (HC1 _ K1.out.1).mono ?_
    rintro r w2 ⟨⟨v1, v2, rfl, C2⟩, hb2⟩
    clear q0 q1 q2 q3
    have K2 : Hid (Below w.heap.size w w2 ∧ IR w2 (w.heap.size + 1) (.int .i64 0) (.int .i64 0)) := ⟨K1.out.1.trans (hb2.mono K1.out.1.size), K1.out.2.2.keep hb2⟩
    clear hb2 K1 HC1
    go_wp2_with fail
    refine C2.mono ?_
    rintro r w3 ⟨rfl, hb3⟩
    have K3 : Hid (Below w.heap.size w w3 ∧ IR w3 (w.heap.size + 1) (.int .i64 0) (.int .i64 0)) := ⟨K2.out.1.trans (hb3.mono K2.out.1.size), K2.out.2.keep hb3⟩
    clear hb3 K2 C2
    obtain ⟨r0, r1, rf, _⟩ := K3.out.2
    have rf0 := rf 0
    have rf1 := rf 1
    clear rf
    go_wp2_with fail
    refine bodyPost_ret (v := .agg #[.int .i64 0, .int .i64 cn]) ?_ rfl ⟨rfl, (K3.out.1.setCell (by simp) _).setCell (by simp) _⟩
    simp [results, Tryz.results57, go_sem, r0, r1]
  · rw [if_neg c0]
    clear HC
    go_enter Tryz.func57, Tryz.ntmps57
    go_wp2_with fail
    rw [← HW.out]
    refine (HF.out _ K0.out.1).mono ?_
    rintro r w1 ⟨rfl, hb1⟩
    have K1 : Hid (Below w.heap.size w w1 ∧ IR w1 (w.heap.size + 1) (.int .i64 0) (.int .i64 0)) := ⟨K0.out.1.trans (hb1.mono K0.out.1.size), K0.out.2.2.keep hb1⟩
    clear hb1 K0 HF
    obtain ⟨r0, r1, rf, _⟩ := K1.out.2
    have rf0 := rf 0
    have rf1 := rf 1
    clear rf
    go_wp2_with fail
    refine bodyPost_ret (v := .agg #[.int .i64 c, .int .i64 0]) ?_ rfl ⟨rfl, (K1.out.1.setCell (by simp) _).setCell (by simp) _⟩
    simp [results, Tryz.results57, go_sem, r0, r1]
end Go.Proofs.YtmidfgjnaebfiaaGreatDoor
/-
  An entry is looked for, by the model.
-/
namespace Go.Proofs.YtmidfgjnaebfiaaGreatDoor
open Go.ChangeShapes Go.WideShapes Go.ChangeAt Go.RowKit Go.Sort
def zeroEnt : Ent := ⟨⟨#[]⟩, 0, [], [], 0, 0, 0, 0, 0, false, false, [], 0⟩
def zeroR : EntR := ⟨none, 0, none, 0, none, 0⟩
theorem zeroRow (w : World) (base : Nat) : EntRow w base zeroEnt zeroR := ⟨World.ownsRow_nil _ _ _ _, World.ownsRow_nil _ _ _ _, World.ownsRow_nil _ _ _ _, .inl rfl, .inl rfl, .inl rfl⟩
def isKey (key : ByteArray) (x : Ent) : Bool := x.key.toList == key.toList
/-- What PeekEntry answers. -/
def peekR (bu gu : Int) (tl kl : List Ent) (key : ByteArray) : Int × Ent :=
  if storeC bu gu tl kl ≠ 0 then (storeC bu gu tl kl, zeroEnt) else
  match (tl ++ kl).find? (isKey key) with
  | none => (4, zeroEnt)
  | some x => (0, x)
theorem find_at : ∀ (l : List Ent) (key : ByteArray) (i : Nat) (x : Ent), l[i]? = some x → isKey key x = true → (∀ j y, j < i → l[j]? = some y → isKey key y = false) → l.find? (isKey key) = some x
  | [], _, i, x, h, _, _ => by simp at h
  | y :: l, key, 0, x, h, hk, _ => by
    simp at h; subst h
    simp [hk]
  | y :: l, key, i + 1, x, h, hk, hn => by
    have h0 := hn 0 y (by omega) (by simp)
    rw [List.find?_cons, h0]
    exact find_at l key i x (by simpa using h) hk (fun j z hj hz => hn (j + 1) z (by omega) (by simpa using hz))
theorem find_no (l : List Ent) (key : ByteArray) (h : ∀ (j : Nat) y, l[j]? = some y → isKey key y = false) : l.find? (isKey key) = none := by
  rw [List.find?_eq_none]
  intro x hx
  obtain ⟨j, hj⟩ := List.mem_iff_getElem?.1 hx
  rw [h j x hj]; simp
set_option maxHeartbeats 4000000 in
theorem l8Find_any (w : World) (a : Option Addr) (cap : Nat) (l : List (Ent × EntR)) (key : ByteArray) (hl : l.length ≤ 1000000) (hi : EntsIn w a l) :
    Calls Tryz.prog 138 #[.slice a l.length cap, .string key] w fun e w' => ((∃ (i : Nat) (q : Ent × EntR), l[i]? = some q ∧ isKey key q.1 = true ∧ (l.map Prod.fst).find? (isKey key) = some q.1 ∧ e = .returned (.int .i64 (i : Int))) ∨ ((l.map Prod.fst).find? (isKey key) = none ∧ e = .returned (.int .i64 (-1)))) ∧ Below w.heap.size w w' := by
  have HI : Hid (EntsIn w a l) := hi
  clear hi
  generalize hn : l.length = n at *
  have HN : Hid (l.length = n) := hn
  clear hn
  go_enter Tryz.func138, Tryz.ntmps138
  go_wp2_with fail
  go_loopw [5] (fun i wr => ∃ k : Nat, k ≤ n ∧ i = .int .i64 k ∧ (∀ (j : Nat) y, j < k → (l.map Prod.fst)[j]? = some y → isKey key y = false) ∧ Below w.heap.size w wr) (fun i _ => n - (intOf i).toNat)
  case atStart => exact ⟨0, Nat.zero_le _, rfl, fun j y h => absurd h (by omega), Below.refl _ _⟩
  case round =>
    obtain ⟨k, hk, rfl, hs, hb⟩ := hrel
    have HS : Hid (∀ (j : Nat) y, j < k → (l.map Prod.fst)[j]? = some y → isKey key y = false) := hs
    clear hs
    by_cases hlt : k < n
    · obtain ⟨q, hr⟩ : ∃ r, l[k]? = some r := ⟨l[k]'(by have := HN.out; omega), List.getElem?_eq_getElem _⟩
      rcases HI.out with h | ⟨b, off, rfl, hat⟩
      · subst h; simp at hr
      have p0 := ((hat.keep hb).cells hr).1
      have g : (k : Int) < n := by omega
      have g0 : (0 : Int) ≤ k := by omega
      have HM : Hid ((l.map Prod.fst)[k]? = some q.1) := by show _ = _; rw [List.getElem?_map, hr]; rfl
      have HR : Hid (l[k]? = some q) := hr
      clear hat hr
      cases he : (q.1.key.toList == key.toList)
      · have HS2 : Hid (∀ (j : Nat) y, j < k + 1 → (l.map Prod.fst)[j]? = some y → isKey key y = false) := by
          intro j y hj hy
          by_cases e : j = k
          · subst e
            rw [HM.out] at hy
            obtain rfl := Option.some.inj hy
            exact he
          · exact HS.out j y (by omega) hy
        generalize q.1.key = qk at *
        go_wp2_with fail
        go_roundw
        case rel => exact ⟨k + 1, by omega, by go_num, HS2.out, hb⟩
        case measure => simp [intOf]; omega
      · have HF : Hid (∃ (i : Nat) (q : Ent × EntR), l[i]? = some q ∧ isKey key q.1 = true ∧ (l.map Prod.fst).find? (isKey key) = some q.1 ∧ Ending.returned (.int .i64 ((k : Nat) : Int)) = .returned (.int .i64 (i : Int))) := ⟨k, q, HR.out, he, find_at _ key k q.1 HM.out he HS.out, rfl⟩
        obtain ⟨qk, hqk⟩ : ∃ x, q.1.key = x := ⟨_, rfl⟩
        rw [hqk] at p0 he
        go_wp2_with fail
        go_ret
        exact ⟨.inl HF.out, hb⟩
    · have HF : Hid ((l.map Prod.fst).find? (isKey key) = none) := find_no _ key (fun j y hy => HS.out j y (by have := (List.getElem?_eq_some_iff.1 hy).1; have := HN.out; simp at *; omega) hy)
      clear HS
      go_wp2_with fail
      go_ret
      exact ⟨.inr ⟨HF.out, rfl⟩, hb⟩
set_option maxRecDepth 100000 in
set_option maxHeartbeats 8000000 in
theorem l8Peek_at (w : World) (S : Nat) (key : ByteArray) (ta ka : Option Addr) (tc kc : Nat) (tl kl : List (Ent × EntR)) (c2 : w.cell? ⟨S, 2, none⟩ = some (.slice ta tl.length tc)) (c3 : w.cell? ⟨S, 3, none⟩ = some (.slice ka kl.length kc)) (hl : tl.length + kl.length ≤ 1000000) (hf : ∀ q ∈ tl ++ kl, q.1.hs.length ≤ 1048576 ∧ q.1.bl.length ≤ 1048576 ∧ q.1.ts.length ≤ 1048576) (ht : EntsIn w ta tl) (hk : EntsIn w ka kl) :
    Calls Tryz.prog 68 #[.pointer (some ⟨S, 0, none⟩), .string key] w fun e w' => ((∃ x r, (tl.map Prod.fst ++ kl.map Prod.fst).find? (isKey key) = some x ∧ e = .returned (.tuple #[entV x r, .bool true]) ∧ EntRow w' w.heap.size x r) ∨ ((tl.map Prod.fst ++ kl.map Prod.fst).find? (isKey key) = none ∧ e = .returned (.tuple #[entV zeroEnt zeroR, .bool false]))) ∧ Below w.heap.size w w' := by
  obtain ⟨W, hW⟩ : ∃ W, W = w.alloc (.cells #[.string ⟨#[]⟩, .int .i64 0, .slice none 0 0, .slice none 0 0, .int .i64 0, .int .i64 0, .int .i64 0, .int .i64 0, .int .i64 0, .bool false, .bool false, .slice none 0 0, .int .i64 0] 32) := ⟨_, rfl⟩
  have HW : Hid (W = w.alloc (.cells #[.string ⟨#[]⟩, .int .i64 0, .slice none 0 0, .slice none 0 0, .int .i64 0, .int .i64 0, .int .i64 0, .int .i64 0, .int .i64 0, .bool false, .bool false, .slice none 0 0, .int .i64 0] 32)) := hW
  have bW : Below w.heap.size w W := by rw [hW]; exact (Below.refl _ _).alloc (Nat.le_refl _) _
  have K0 : Hid (Below w.heap.size w W ∧ E13 W w.heap.size (.string ⟨#[]⟩) (.int .i64 0) (.slice none 0 0) (.slice none 0 0) (.int .i64 0) (.int .i64 0) (.int .i64 0) (.int .i64 0) (.int .i64 0) (.bool false) (.bool false) (.slice none 0 0) (.int .i64 0) ∧ W.heap.size = w.heap.size + 1) := ⟨bW, by rw [hW]; exact E13.new w _ _ _ _ _ _ _ _ _ _ _ _ _ _, by rw [hW]; simp⟩
  have hS : S < w.heap.size := block_lt_of_cell c2
  have CA : Hid (Calls Tryz.prog 123 #[.pointer (some ⟨S, 0, none⟩)] W fun e w' => (∃ v, e = .returned v ∧ OwnE w' W.heap.size v (tl ++ kl)) ∧ Below W.heap.size W w') := l8All_any W S 0 ta ka tc kc tl kl (by rw [bW.cell (p := ⟨S, 0 + 2, none⟩) hS]; exact c2) (by rw [bW.cell (p := ⟨S, 0 + 3, none⟩) hS]; exact c3) hl (ht.keep bW) (hk.keep bW)
  have HIN : Hid (∀ X, Below w.heap.size w X → ∀ q ∈ tl ++ kl, EntIn X q.1 q.2) := fun X hX q hq' => by
    rcases List.mem_append.1 hq' with h | h
    · rcases ht.keep hX with e | ⟨b, off, _, hat⟩
      · subst e; simp at h
      · obtain ⟨i, hi⟩ := List.mem_iff_getElem?.1 h; exact hat.in hi
    · rcases hk.keep hX with e | ⟨b, off, _, hat⟩
      · subst e; simp at h
      · obtain ⟨i, hi⟩ := List.mem_iff_getElem?.1 h; exact hat.in hi
  have HF : Hid (∀ q ∈ tl ++ kl, q.1.hs.length ≤ 1048576 ∧ q.1.bl.length ≤ 1048576 ∧ q.1.ts.length ≤ 1048576) := hf
  rw [← List.map_append]
  have hln : (tl ++ kl).length ≤ 1000000 := by rw [List.length_append]; exact hl
  clear hW bW c2 c3 ht hk hf hS
  generalize tl ++ kl = al at *
  go_enter Tryz.func68, Tryz.ntmps68
  go_wp2_with fail
  rw [← HW.out]
  refine CA.out.mono ?_
  rintro e w1 ⟨⟨v, rfl, ho⟩, hb1⟩
  have hbb := K0.out.1.trans (hb1.mono K0.out.1.size)
  obtain ⟨a, c, rfl, _, hi⟩ := ho.at (HIN.out _ hbb)
  have K1 : Hid (Below w.heap.size w w1 ∧ E13 w1 w.heap.size (.string ⟨#[]⟩) (.int .i64 0) (.slice none 0 0) (.slice none 0 0) (.int .i64 0) (.int .i64 0) (.int .i64 0) (.int .i64 0) (.int .i64 0) (.bool false) (.bool false) (.slice none 0 0) (.int .i64 0) ∧ w.heap.size + 1 ≤ w1.heap.size ∧ EntsIn w1 a al) := ⟨hbb, K0.out.2.1.keep hb1, by have := hb1.size; have := K0.out.2.2; omega, hi⟩
  have CF : Hid (Calls Tryz.prog 138 #[.slice a al.length c, .string key] w1 fun e w' => ((∃ (i : Nat) (q : Ent × EntR), al[i]? = some q ∧ isKey key q.1 = true ∧ (al.map Prod.fst).find? (isKey key) = some q.1 ∧ e = .returned (.int .i64 (i : Int))) ∨ ((al.map Prod.fst).find? (isKey key) = none ∧ e = .returned (.int .i64 (-1)))) ∧ Below w1.heap.size w1 w') := l8Find_any w1 a c al key hln hi
  clear K0 HW CA hb1 hbb ho hi
  go_wp2_with fail
  refine CF.out.mono ?_
  rintro e w2 ⟨hcase, hb2⟩
  have K2 : Hid (Below w.heap.size w w2 ∧ E13 w2 w.heap.size (.string ⟨#[]⟩) (.int .i64 0) (.slice none 0 0) (.slice none 0 0) (.int .i64 0) (.int .i64 0) (.int .i64 0) (.int .i64 0) (.int .i64 0) (.bool false) (.bool false) (.slice none 0 0) (.int .i64 0) ∧ w.heap.size + 1 ≤ w2.heap.size ∧ EntsIn w2 a al) := ⟨K1.out.1.trans (hb2.mono K1.out.1.size), K1.out.2.1.keep hb2, by have := hb2.size; have := K1.out.2.2.1; omega, K1.out.2.2.2.keep hb2⟩
  clear hb2 K1 CF
  rcases hcase with ⟨i, q, hq, _, hfind, rfl⟩ | ⟨hfind, rfl⟩
  · rcases K2.out.2.2.2 with e | ⟨b, off, rfl, hat⟩
    · subst e; simp at hq
    have ft := HF.out q (List.mem_of_getElem? hq)
    have CC : Hid (Calls Tryz.prog 139 #[.pointer (some ⟨b, off + i * 13, none⟩)] w2 fun e w' => (∃ r, e = .returned (entV q.1 r) ∧ EntRow w' w2.heap.size q.1 r) ∧ Below w2.heap.size w2 w') := l8ECopy_at w2 ⟨b, off + i * 13, q.1, q.2⟩ ft.1 ft.2.1 ft.2.2 (hat i q hq)
    have hil : i < al.length := (List.getElem?_eq_some_iff.1 hq).1
    have gi : (i : Int) < (al.length : Int) := by omega
    have gi0 : (0 : Int) ≤ i := by omega
    have HFD : Hid ((al.map Prod.fst).find? (isKey key) = some q.1) := hfind
    clear hq hat ft hfind HF HIN
    go_wp2_with fail
    refine CC.out.mono ?_
    rintro e w3 ⟨⟨r, rfl, hrow⟩, hb3⟩
    have K3 : Hid (Below w.heap.size w w3 ∧ E13 w3 w.heap.size (.string ⟨#[]⟩) (.int .i64 0) (.slice none 0 0) (.slice none 0 0) (.int .i64 0) (.int .i64 0) (.int .i64 0) (.int .i64 0) (.int .i64 0) (.bool false) (.bool false) (.slice none 0 0) (.int .i64 0) ∧ EntRow w3 (w.heap.size + 1) q.1 r) := ⟨K2.out.1.trans (hb3.mono K2.out.1.size), K2.out.2.1.keep hb3, hrow.lower K2.out.2.2.1⟩
    clear hb3 K2 hrow CC
    unfold entV entW
    have z0 := K3.out.2.1.c0
    have zf0 := K3.out.2.1.fr 0
    have z1 := K3.out.2.1.c1
    have zf1 := K3.out.2.1.fr 1
    have z2 := K3.out.2.1.c2
    have zf2 := K3.out.2.1.fr 2
    have z3 := K3.out.2.1.c3
    have zf3 := K3.out.2.1.fr 3
    have z4 := K3.out.2.1.c4
    have zf4 := K3.out.2.1.fr 4
    have z5 := K3.out.2.1.c5
    have zf5 := K3.out.2.1.fr 5
    have z6 := K3.out.2.1.c6
    have zf6 := K3.out.2.1.fr 6
    have z7 := K3.out.2.1.c7
    have zf7 := K3.out.2.1.fr 7
    have z8 := K3.out.2.1.c8
    have zf8 := K3.out.2.1.fr 8
    have z9 := K3.out.2.1.c9
    have zf9 := K3.out.2.1.fr 9
    have z10 := K3.out.2.1.c10
    have zf10 := K3.out.2.1.fr 10
    have z11 := K3.out.2.1.c11
    have zf11 := K3.out.2.1.fr 11
    have z12 := K3.out.2.1.c12
    have zf12 := K3.out.2.1.fr 12
    have FIN : Hid (∀ u0 u1 u2 u3 u4 u5 u6 u7 u8 u9 u10 u11 u12, EntRow (((((((((((((w3.setCell ⟨w.heap.size, 0, none⟩ u0).setCell ⟨w.heap.size, 1, none⟩ u1).setCell ⟨w.heap.size, 2, none⟩ u2).setCell ⟨w.heap.size, 3, none⟩ u3).setCell ⟨w.heap.size, 4, none⟩ u4).setCell ⟨w.heap.size, 5, none⟩ u5).setCell ⟨w.heap.size, 6, none⟩ u6).setCell ⟨w.heap.size, 7, none⟩ u7).setCell ⟨w.heap.size, 8, none⟩ u8).setCell ⟨w.heap.size, 9, none⟩ u9).setCell ⟨w.heap.size, 10, none⟩ u10).setCell ⟨w.heap.size, 11, none⟩ u11).setCell ⟨w.heap.size, 12, none⟩ u12) w.heap.size q.1 r ∧ Below w.heap.size w (((((((((((((w3.setCell ⟨w.heap.size, 0, none⟩ u0).setCell ⟨w.heap.size, 1, none⟩ u1).setCell ⟨w.heap.size, 2, none⟩ u2).setCell ⟨w.heap.size, 3, none⟩ u3).setCell ⟨w.heap.size, 4, none⟩ u4).setCell ⟨w.heap.size, 5, none⟩ u5).setCell ⟨w.heap.size, 6, none⟩ u6).setCell ⟨w.heap.size, 7, none⟩ u7).setCell ⟨w.heap.size, 8, none⟩ u8).setCell ⟨w.heap.size, 9, none⟩ u9).setCell ⟨w.heap.size, 10, none⟩ u10).setCell ⟨w.heap.size, 11, none⟩ u11).setCell ⟨w.heap.size, 12, none⟩ u12)) := fun u0 u1 u2 u3 u4 u5 u6 u7 u8 u9 u10 u11 u12 => ⟨(((((((((((((K3.out.2.2.off1 u0 (by omega)).off1 u1 (by omega)).off1 u2 (by omega)).off1 u3 (by omega)).off1 u4 (by omega)).off1 u5 (by omega)).off1 u6 (by omega)).off1 u7 (by omega)).off1 u8 (by omega)).off1 u9 (by omega)).off1 u10 (by omega)).off1 u11 (by omega)).off1 u12 (by omega)).lower (by omega), (((((((((((((K3.out.1.setCell (Nat.le_refl _) u0).setCell (Nat.le_refl _) u1).setCell (Nat.le_refl _) u2).setCell (Nat.le_refl _) u3).setCell (Nat.le_refl _) u4).setCell (Nat.le_refl _) u5).setCell (Nat.le_refl _) u6).setCell (Nat.le_refl _) u7).setCell (Nat.le_refl _) u8).setCell (Nat.le_refl _) u9).setCell (Nat.le_refl _) u10).setCell (Nat.le_refl _) u11).setCell (Nat.le_refl _) u12)⟩
    clear K3
    go_wp2_with fail
    exact bodyPost_ret (v := .tuple #[.agg #[.string q.1.key, .int .i64 q.1.st, .slice r.ha q.1.hs.length r.hc, .slice r.ba q.1.bl.length r.bc, .int .i64 q.1.t, .int .i64 q.1.g, .int .i64 q.1.l, .int .i64 q.1.s, .int .i64 q.1.e, .bool q.1.b1, .bool q.1.b2, .slice r.ta q.1.ts.length r.tc, .int .i64 q.1.pins], .bool true]) (by simp [results, Tryz.results68, go_sem, z0, z1, z2, z3, z4, z5, z6, z7, z8, z9, z10, z11, z12]) rfl ⟨.inl ⟨q.1, r, HFD.out, rfl, (FIN.out _ _ _ _ _ _ _ _ _ _ _ _ _).1⟩, (FIN.out _ _ _ _ _ _ _ _ _ _ _ _ _).2⟩
  · have HFD : Hid ((al.map Prod.fst).find? (isKey key) = none) := hfind
    clear hfind HF HIN
    have z0 := K2.out.2.1.c0
    have zf0 := K2.out.2.1.fr 0
    have z1 := K2.out.2.1.c1
    have zf1 := K2.out.2.1.fr 1
    have z2 := K2.out.2.1.c2
    have zf2 := K2.out.2.1.fr 2
    have z3 := K2.out.2.1.c3
    have zf3 := K2.out.2.1.fr 3
    have z4 := K2.out.2.1.c4
    have zf4 := K2.out.2.1.fr 4
    have z5 := K2.out.2.1.c5
    have zf5 := K2.out.2.1.fr 5
    have z6 := K2.out.2.1.c6
    have zf6 := K2.out.2.1.fr 6
    have z7 := K2.out.2.1.c7
    have zf7 := K2.out.2.1.fr 7
    have z8 := K2.out.2.1.c8
    have zf8 := K2.out.2.1.fr 8
    have z9 := K2.out.2.1.c9
    have zf9 := K2.out.2.1.fr 9
    have z10 := K2.out.2.1.c10
    have zf10 := K2.out.2.1.fr 10
    have z11 := K2.out.2.1.c11
    have zf11 := K2.out.2.1.fr 11
    have z12 := K2.out.2.1.c12
    have zf12 := K2.out.2.1.fr 12
    have FIN : Hid (∀ u0 u1 u2 u3 u4 u5 u6 u7 u8 u9 u10 u11 u12, Below w.heap.size w (((((((((((((w2.setCell ⟨w.heap.size, 0, none⟩ u0).setCell ⟨w.heap.size, 1, none⟩ u1).setCell ⟨w.heap.size, 2, none⟩ u2).setCell ⟨w.heap.size, 3, none⟩ u3).setCell ⟨w.heap.size, 4, none⟩ u4).setCell ⟨w.heap.size, 5, none⟩ u5).setCell ⟨w.heap.size, 6, none⟩ u6).setCell ⟨w.heap.size, 7, none⟩ u7).setCell ⟨w.heap.size, 8, none⟩ u8).setCell ⟨w.heap.size, 9, none⟩ u9).setCell ⟨w.heap.size, 10, none⟩ u10).setCell ⟨w.heap.size, 11, none⟩ u11).setCell ⟨w.heap.size, 12, none⟩ u12)) := fun u0 u1 u2 u3 u4 u5 u6 u7 u8 u9 u10 u11 u12 => (((((((((((((K2.out.1.setCell (Nat.le_refl _) u0).setCell (Nat.le_refl _) u1).setCell (Nat.le_refl _) u2).setCell (Nat.le_refl _) u3).setCell (Nat.le_refl _) u4).setCell (Nat.le_refl _) u5).setCell (Nat.le_refl _) u6).setCell (Nat.le_refl _) u7).setCell (Nat.le_refl _) u8).setCell (Nat.le_refl _) u9).setCell (Nat.le_refl _) u10).setCell (Nat.le_refl _) u11).setCell (Nat.le_refl _) u12)
    clear K2
    go_wp2_with fail
    exact bodyPost_ret (v := .tuple #[.agg #[.string ⟨#[]⟩, .int .i64 0, .slice none 0 0, .slice none 0 0, .int .i64 0, .int .i64 0, .int .i64 0, .int .i64 0, .int .i64 0, .bool false, .bool false, .slice none 0 0, .int .i64 0], .bool false]) (by simp [results, Tryz.results68, go_sem, z0, z1, z2, z3, z4, z5, z6, z7, z8, z9, z10, z11, z12]) rfl ⟨.inr ⟨HFD.out, rfl⟩, FIN.out _ _ _ _ _ _ _ _ _ _ _ _ _⟩
end Go.Proofs.YtmidfgjnaebfiaaGreatDoor
/-
  An entry is looked for, by the program; what all that look for a key ask ahead.
-/
namespace Go.Proofs.YtmidfgjnaebfiaaGreatDoor
open Go.ChangeShapes Go.WideShapes Go.ChangeAt Go.RowKit Go.Sort
/-- What find answers, of handles. -/
def FindH (l : List Hdl) (key : ByteArray) (v : Value) : Prop := (∃ h, h ∈ l ∧ (l.map Hdl.x).find? (isKey key) = some h.x ∧ v = .pointer (some ⟨h.b, h.o, none⟩)) ∨ ((l.map Hdl.x).find? (isKey key) = none ∧ v = .pointer none)
set_option maxRecDepth 100000 in
set_option maxHeartbeats 8000000 in
theorem findP_any (w : World) (v1 v2 : Value) (base : Nat) (l1 l2 : List Hdl) (key : ByteArray) (h : TwoP w base v1 v2 l1 l2) (hl : l1.length + l2.length ≤ 1000000) (hth : ∀ h ∈ l1 ++ l2, HThere w h) :
    Calls Tryz.prog 73 #[.agg #[v1, v2], .string key] w fun e w' => (∃ v, e = .returned v ∧ FindH (l1 ++ l2) key v) ∧ Below w.heap.size w w' := by
  obtain ⟨a1, k1, e1, _⟩ := h.a.form
  obtain ⟨a2, k2, e2, _⟩ := h.b.form
  obtain ⟨W, hW⟩ : ∃ W, W = w.alloc (.cells #[v1, v2] 106) := ⟨_, rfl⟩
  have HW : Hid (W = w.alloc (.cells #[v1, v2] 106)) := hW
  have bW : Below w.heap.size w W := by rw [hW]; exact (Below.refl _ _).alloc (Nat.le_refl _) _
  have CA : Hid (Calls Tryz.prog 118 #[.agg #[v1, v2]] W fun e w' => (∃ v, e = .returned v ∧ OwnP w' W.heap.size v (l1 ++ l2)) ∧ Below W.heap.size W w') := shAll_any W v1 v2 base l1 l2 (h.below bW) hl
  have HT : Hid (∀ X, Below w.heap.size w X → ∀ h ∈ l1 ++ l2, X.cell? ⟨h.b, h.o, none⟩ = some (.string h.x.key)) := fun X hX h hh => (((hth h hh).keep hX).cells).1
  have HB : Hid (Below w.heap.size w W) := bW
  have hln : (l1 ++ l2).length ≤ 1000000 := by rw [List.length_append]; exact hl
  clear hW bW h hth hl
  generalize l1 ++ l2 = al at *
  subst e1
  subst e2
  go_enter Tryz.func73, Tryz.ntmps73
  go_wp2_with fail
  rw [← HW.out]
  refine CA.out.mono ?_
  rintro e w1 ⟨⟨v, rfl, ho⟩, hb1⟩
  obtain ⟨av, ac, rfl, _, hf⟩ := ho.form
  have HB1 : Hid (Below w.heap.size w w1) := HB.out.trans (hb1.mono HB.out.size)
  have HC : Hid (∀ X, Below w1.heap.size w1 X → ∀ (k : Nat) h, al[k]? = some h → ∃ g, av = some ⟨g, 0, none⟩ ∧ X.cell? ⟨g, k, none⟩ = some (.pointer (some ⟨h.b, h.o, none⟩))) := fun X hX k h hk => by
    rcases hf with e | ⟨g, e, _, hg, hc⟩
    · rw [e] at hk; simp at hk
    · exact ⟨g, e, by rw [hX.cell (p := ⟨g, k, none⟩) hg]; exact hc k h hk⟩
  clear hf ho hb1 HB HW CA
  obtain ⟨n, hn⟩ : ∃ n, al.length = n := ⟨_, rfl⟩
  rw [hn] at hln ⊢
  have HN : Hid (al.length = n) := hn
  clear hn
  go_wp2_with fail
  go_loopw [10] (fun i wr => ∃ k : Nat, k ≤ n ∧ i = .int .i64 k ∧ (∀ (j : Nat) y, j < k → (al.map Hdl.x)[j]? = some y → isKey key y = false) ∧ Below w1.heap.size w1 wr) (fun i _ => n - (intOf i).toNat)
  case atStart => exact ⟨0, Nat.zero_le _, rfl, fun j y h => absurd h (by omega), Below.refl _ _⟩
  case round =>
    obtain ⟨k, hk, rfl, hs, hb⟩ := hrel
    have HS : Hid (∀ (j : Nat) y, j < k → (al.map Hdl.x)[j]? = some y → isKey key y = false) := hs
    clear hs
    have HBW : Hid (Below w.heap.size w wr) := HB1.out.trans (hb.mono HB1.out.size)
    by_cases hlt : k < n
    · obtain ⟨q, hr⟩ : ∃ r, al[k]? = some r := ⟨al[k]'(by have := HN.out; omega), List.getElem?_eq_getElem _⟩
      obtain ⟨g', rfl, p⟩ := HC.out wr hb k q hr
      have p0 := HT.out wr HBW.out q (List.mem_of_getElem? hr)
      have g : (k : Int) < n := by omega
      have g0 : (0 : Int) ≤ k := by omega
      have HM : Hid ((al.map Hdl.x)[k]? = some q.x) := by show _ = _; rw [List.getElem?_map, hr]; rfl
      have HQ : Hid (q ∈ al) := List.mem_of_getElem? hr
      clear hr
      cases he : (q.x.key.toList == key.toList)
      · have HS2 : Hid (∀ (j : Nat) y, j < k + 1 → (al.map Hdl.x)[j]? = some y → isKey key y = false) := by
          intro j y hj hy
          by_cases e : j = k
          · subst e
            rw [HM.out] at hy
            obtain rfl := Option.some.inj hy
            exact he
          · exact HS.out j y (by omega) hy
        generalize q.x.key = qk at *
        go_wp2_with fail
        go_roundw
        case rel => exact ⟨k + 1, by omega, by go_num, HS2.out, hb⟩
        case measure => simp [intOf]; omega
      · have HF : Hid (FindH al key (.pointer (some ⟨q.b, q.o, none⟩))) := .inl ⟨q, HQ.out, find_at _ key k q.x HM.out he HS.out, rfl⟩
        obtain ⟨qk, hqk⟩ : ∃ x, q.x.key = x := ⟨_, rfl⟩
        rw [hqk] at p0 he
        go_wp2_with fail
        go_ret
        exact ⟨⟨_, rfl, HF.out⟩, HBW.out⟩
    · have HF : Hid (FindH al key (.pointer none)) := .inr ⟨find_no _ key (fun j y hy => HS.out j y (by have := (List.getElem?_eq_some_iff.1 hy).1; have := HN.out; simp at *; omega) hy), rfl⟩
      clear HS
      go_wp2_with fail
      go_ret
      exact ⟨⟨_, rfl, HF.out⟩, HBW.out⟩
/-- The handles of a store. -/
def hdl2 (ta ka : Option Addr) (tl kl : List (Ent × EntR)) : List Hdl := hdlsA ta tl ++ hdlsA ka kl
theorem hdl2_x (ta ka : Option Addr) (tl kl : List (Ent × EntR)) : (hdl2 ta ka tl kl).map Hdl.x = tl.map Prod.fst ++ kl.map Prod.fst := by unfold hdl2; rw [List.map_append, hdlsA_x, hdlsA_x]
theorem hdl2_there {w : World} {ta ka : Option Addr} {tl kl : List (Ent × EntR)} (ht : EntsIn w ta tl) (hq : EntsIn w ka kl) : ∀ h ∈ hdl2 ta ka tl kl, HThere w h := fun h hh => by
  rcases List.mem_append.1 hh with hh | hh
  · exact hdlsA_there ht h hh
  · exact hdlsA_there hq h hh
def keyC (bu gu : Int) (tl kl : List Ent) (key : ByteArray) : Int := if storeC bu gu tl kl ≠ 0 then storeC bu gu tl kl else if (tl ++ kl).find? (isKey key) = none then 4 else 0
/-- Shelves, and an entry looked for on them. -/
theorem shFind_any (w : World) (bu gu : Int) (ta ka : Option Addr) (tc kc : Nat) (tl kl : List (Ent × EntR)) (key : ByteArray) (h0 : storeC bu gu (tl.map Prod.fst) (kl.map Prod.fst) = 0) (ht : EntsIn w ta tl) (hq : EntsIn w ka kl) :
    Calls Tryz.prog 72 #[.agg #[.int .i64 bu, .int .i64 gu, .slice ta tl.length tc, .slice ka kl.length kc]] w fun e w' => (∃ v1 v2, e = .returned (.agg #[v1, v2]) ∧ Calls Tryz.prog 73 #[.agg #[v1, v2], .string key] w' fun e w'' => (∃ v, e = .returned v ∧ FindH (hdl2 ta ka tl kl) key v) ∧ Below w'.heap.size w' w'') ∧ Below w.heap.size w w' := by
  obtain ⟨_, z2, _, _, _, _⟩ := storeC_zero h0
  rw [List.length_map, List.length_map] at z2
  refine (shelvesOf_any w bu gu ta ka tc kc tl kl (by omega) (by omega) ht hq).mono ?_
  rintro e w' ⟨⟨v1, v2, rfl, h2⟩, hb⟩
  exact ⟨⟨v1, v2, rfl, findP_any w' v1 v2 _ _ _ key h2 (by rw [hdlsA_len, hdlsA_len]; omega) (hdl2_there (ht.keep hb) (hq.keep hb))⟩, hb⟩
set_option maxHeartbeats 8000000 in
theorem keyFault_any (w : World) (bu gu : Int) (ta ka : Option Addr) (tc kc : Nat) (tl kl : List (Ent × EntR)) (key : ByteArray) (hset : SetIs w) (hl : tl.length ≤ 1048576) (hk : kl.length ≤ 1048576) (hto : ∀ q ∈ tl ++ kl, EntOk q.1) (ht : EntsIn w ta tl) (hq : EntsIn w ka kl) :
    Calls Tryz.prog 70 #[.agg #[.int .i64 bu, .int .i64 gu, .slice ta tl.length tc, .slice ka kl.length kc], .string key] w fun r w' => r = .returned (.int .i64 (keyC bu gu (tl.map Prod.fst) (kl.map Prod.fst) key)) ∧ Below w.heap.size w w' := by
  have HF : Hid (∀ X, Below w.heap.size w X → Calls Tryz.prog 53 #[.agg #[.int .i64 bu, .int .i64 gu, .slice ta tl.length tc, .slice ka kl.length kc]] X fun r w' => r = .returned (.int .i64 (storeC bu gu (tl.map Prod.fst) (kl.map Prod.fst))) ∧ Below X.heap.size X w') := fun X hb => implSto_any X bu gu ta ka tc kc tl kl (hset.below hb) hl hk hto (ht.keep hb) (hq.keep hb)
  have HC : Hid (storeC bu gu (tl.map Prod.fst) (kl.map Prod.fst) = 0 → ∀ X, Below w.heap.size w X → Calls Tryz.prog 72 #[.agg #[.int .i64 bu, .int .i64 gu, .slice ta tl.length tc, .slice ka kl.length kc]] X fun e w' => (∃ v1 v2, e = .returned (.agg #[v1, v2]) ∧ Calls Tryz.prog 73 #[.agg #[v1, v2], .string key] w' fun e w'' => (∃ v, e = .returned v ∧ FindH (hdl2 ta ka tl kl) key v) ∧ Below w'.heap.size w' w'') ∧ Below X.heap.size X w') := fun h0 X hX => shFind_any X bu gu ta ka tc kc tl kl key h0 (ht.keep hX) (hq.keep hX)
  obtain ⟨W, hW⟩ : ∃ W, W = w.alloc (.cells #[.int .i64 bu, .int .i64 gu, .slice ta tl.length tc, .slice ka kl.length kc] 38) := ⟨_, rfl⟩
  have HW : Hid (W = w.alloc (.cells #[.int .i64 bu, .int .i64 gu, .slice ta tl.length tc, .slice ka kl.length kc] 38)) := hW
  have K0 : Hid (Below w.heap.size w W ∧ S4 W w.heap.size (.int .i64 bu) (.int .i64 gu) (.slice ta tl.length tc) (.slice ka kl.length kc)) := by
    rw [hW]; exact ⟨(Below.refl _ _).alloc (Nat.le_refl _) _, S4.new w _ _ _ _ _⟩
  have HX : Hid (∀ v, FindH (hdl2 ta ka tl kl) key v → (∃ p, v = .pointer (some p) ∧ ¬ (tl.map Prod.fst ++ kl.map Prod.fst).find? (isKey key) = none) ∨ (v = .pointer none ∧ (tl.map Prod.fst ++ kl.map Prod.fst).find? (isKey key) = none)) := fun v hv => by
    rcases hv with ⟨h, _, e, rfl⟩ | ⟨e, rfl⟩
    · rw [hdl2_x] at e
      exact .inl ⟨_, rfl, by rw [e]; simp⟩
    · rw [hdl2_x] at e
      exact .inr ⟨rfl, e⟩
  obtain ⟨Z, hZ⟩ : ∃ Z, keyC bu gu (tl.map Prod.fst) (kl.map Prod.fst) key = Z := ⟨_, rfl⟩
  rw [hZ]
  unfold keyC at hZ
  have HZ : Hid (_ = Z) := hZ
  clear hZ hW hset hto ht hq hl hk
  obtain ⟨c, hc⟩ : ∃ c, storeC bu gu (tl.map Prod.fst) (kl.map Prod.fst) = c := ⟨_, rfl⟩
  rw [hc] at HF HC HZ
  clear hc
  generalize (tl.map Prod.fst ++ kl.map Prod.fst).find? (isKey key) = fo at *
  generalize tl.length = tn at *
  generalize kl.length = kn at *
  by_cases c0 : c = 0
  · subst c0
    have HC1 := HC.out rfl
    have HZ1 : Hid ((if fo = none then (4 : Int) else 0) = Z) := by show _ = _; have := HZ.out; simpa using this
    clear HC HZ
    go_enter Tryz.func70, Tryz.ntmps70
    go_wp2_with fail
    rw [← HW.out]
    refine (HF.out _ K0.out.1).mono ?_
    rintro r w1 ⟨rfl, hb1⟩
    have K1 : Hid (Below w.heap.size w w1 ∧ S4 w1 w.heap.size (.int .i64 bu) (.int .i64 gu) (.slice ta tn tc) (.slice ka kn kc)) := ⟨K0.out.1.trans (hb1.mono K0.out.1.size), K0.out.2.keep hb1⟩
    clear hb1 K0 HW HF
    have q0 := K1.out.2.c0
    have q1 := K1.out.2.c1
    have q2 := K1.out.2.c2
    have q3 := K1.out.2.c3
    go_wp2_with fail
    refine (HC1 _ K1.out.1).mono ?_
    rintro r w2 ⟨⟨v1, v2, rfl, C2⟩, hb2⟩
    have B2 : Hid (Below w.heap.size w w2) := K1.out.1.trans (hb2.mono K1.out.1.size)
    clear q0 q1 q2 q3 hb2 K1 HC1
    go_wp2_with fail
    refine C2.mono ?_
    rintro r w3 ⟨⟨v, rfl, hv⟩, hb3⟩
    have B3 : Hid (Below w.heap.size w w3) := B2.out.trans (hb3.mono B2.out.size)
    clear hb3 C2
    rcases HX.out v hv with ⟨p, rfl, hne⟩ | ⟨rfl, he⟩
    · have HE : Hid (0 = Z) := by have := HZ1.out; rw [if_neg hne] at this; exact this
      clear HZ1 hv HX
      go_wp2_with fail
      go_ret
      exact ⟨ret_int HE.out, B3.out⟩
    · have HE : Hid (4 = Z) := by have := HZ1.out; rw [if_pos he] at this; exact this
      clear HZ1 hv HX
      go_wp2_with fail
      go_ret
      exact ⟨ret_int HE.out, B3.out⟩
  · have HE : Hid (c = Z) := by have := HZ.out; rw [if_pos c0] at this; exact this
    clear HC HZ
    go_enter Tryz.func70, Tryz.ntmps70
    go_wp2_with fail
    rw [← HW.out]
    refine (HF.out _ K0.out.1).mono ?_
    rintro r w1 ⟨rfl, hb1⟩
    have B1 : Hid (Below w.heap.size w w1) := K0.out.1.trans (hb1.mono K0.out.1.size)
    clear hb1 K0 HW HF
    go_wp2_with fail
    go_ret
    exact ⟨ret_int HE.out, B1.out⟩
end Go.Proofs.YtmidfgjnaebfiaaGreatDoor
/-
  Entries of a store that are turned where they stand.
-/
namespace Go.Proofs.YtmidfgjnaebfiaaGreatDoor
open Go.ChangeShapes Go.WideShapes Go.ChangeAt Go.RowKit Go.Sort
def turnE (p : Ent → Bool) (f : Ent → Ent) (L : List Ent) : List Ent := L.map fun x => if p x then f x else x
def turnM (p : Ent → Bool) (f : Ent → Ent) (m : List (Ent × EntR)) : List (Ent × EntR) := m.map fun q => (if p q.1 then f q.1 else q.1, q.2)
theorem turnM_fst (p : Ent → Bool) (f : Ent → Ent) (m : List (Ent × EntR)) : (turnM p f m).map Prod.fst = turnE p f (m.map Prod.fst) := by simp [turnM, turnE, Function.comp_def]
theorem turnM_len (p : Ent → Bool) (f : Ent → Ent) (m : List (Ent × EntR)) : (turnM p f m).length = m.length := by simp [turnM]
theorem turnM_none {p : Ent → Bool} {f : Ent → Ent} {m : List (Ent × EntR)} (h : ∀ q ∈ m, p q.1 = false) : turnM p f m = m := by
  unfold turnM
  conv => rhs; rw [← List.map_id m]
  exact List.map_congr_left fun q hq => by simp [h q hq]
theorem turnM_mid {p : Ent → Bool} {f : Ent → Ent} {A B : List (Ent × EntR)} {x : Ent} {r : EntR} (hx : p x = true) (hA : ∀ q ∈ A, p q.1 = false) (hB : ∀ q ∈ B, p q.1 = false) : turnM p f (A ++ (x, r) :: B) = A ++ (f x, r) :: B := by
  have a := turnM_none (f := f) hA
  have b := turnM_none (f := f) hB
  unfold turnM at *
  rw [List.map_append, List.map_cons, a, b]
  simp [hx]
theorem foot_turnM (p : Ent → Bool) (f : Ent → Ent) (m : List (Ent × EntR)) : foot (turnM p f m) = foot m := by
  unfold foot turnM
  rw [List.flatMap_map]
/-- No two have one key. -/
def NdK (L : List Ent) : Prop := (keysE L).Nodup
theorem NdK.app {L M : List Ent} (h : NdK (L ++ M)) : NdK L ∧ NdK M ∧ ∀ x ∈ L, ∀ y ∈ M, x.key.toList ≠ y.key.toList := by
  unfold NdK keysE at *
  rw [List.map_append] at h
  have := List.nodup_append.1 h
  exact ⟨this.1, this.2.1, fun x hx y hy => this.2.2 _ (List.mem_map_of_mem hx) _ (List.mem_map_of_mem hy)⟩
theorem isKey_eq {key : ByteArray} {x y : Ent} (hx : isKey key x = true) (hy : isKey key y = true) : x.key.toList = y.key.toList := by
  unfold isKey at hx hy
  rw [beq_iff_eq] at hx hy
  rw [hx, hy]
theorem NdK.mid {key : ByteArray} {A B : List (Ent × EntR)} {x : Ent} {r : EntR} (h : NdK ((A ++ (x, r) :: B).map Prod.fst)) (hx : isKey key x = true) : (∀ q ∈ A, isKey key q.1 = false) ∧ ∀ q ∈ B, isKey key q.1 = false := by
  rw [List.map_append, List.map_cons] at h
  obtain ⟨_, h2, h3⟩ := NdK.app h
  have h2' : NdK ([x] ++ B.map Prod.fst) := h2
  obtain ⟨_, _, h4⟩ := NdK.app h2'
  refine ⟨fun q hq => ?_, fun q hq => ?_⟩
  · by_cases c : isKey key q.1 = true
    · exact absurd (isKey_eq c hx) (h3 q.1 (List.mem_map_of_mem hq) x (by simp))
    · simpa using c
  · by_cases c : isKey key q.1 = true
    · exact absurd (isKey_eq hx c) (h4 x (by simp) q.1 (List.mem_map_of_mem hq))
    · simpa using c
theorem mid_split {α : Type} {l : List α} {i : Nat} {q : α} (h : l[i]? = some q) : ∃ A B, l = A ++ q :: B ∧ A.length = i := by
  obtain ⟨hi, e⟩ := List.getElem?_eq_some_iff.1 h
  exact ⟨l.take i, l.drop (i + 1), by rw [← e, ← List.drop_eq_getElem_cons hi, List.take_append_drop], by rw [List.length_take]; omega⟩
theorem fp_mid (v : Value) (A B : List (Ent × EntR)) (x x' : Ent) (r : EntR) : fp v (A ++ (x', r) :: B) = fp v (A ++ (x, r) :: B) := by unfold fp; rw [foot_mid, foot_mid]
section
variable {w : World} {base g n cap : Nat} {A B l2 : List (Ent × EntR)} {x : Ent} {r : EntR} {v2 : Value}
theorem StoLV.setT (h : StoLV w base (.slice (some ⟨g, 0, none⟩) n cap) v2 (A ++ (x, r) :: B) l2) {i : Nat} (hi : A.length = i) (j : Nat) (hj : j < 13) (u : Value) (x' : Ent) (e : entW x' r = (entW x r).set j u) (eh : x'.hs = x.hs) (eb : x'.bl = x.bl) (et : x'.ts = x.ts) : StoLV (w.setCell ⟨g, i * 13 + j, none⟩ u) base (.slice (some ⟨g, 0, none⟩) n cap) v2 (A ++ (x', r) :: B) l2 :=
  ⟨h.t.set hi j hj u x' e eh eb et, h.k.out (Out.set w g _ u) (fun b hb e => by simp at e; subst e; exact h.nd b (by simp [fp, Value.ownBlock]) hb), by rw [fp_mid _ A B x x' r]; exact h.nd⟩
theorem StoLV.setK (h : StoLV w base v2 (.slice (some ⟨g, 0, none⟩) n cap) l2 (A ++ (x, r) :: B)) {i : Nat} (hi : A.length = i) (j : Nat) (hj : j < 13) (u : Value) (x' : Ent) (e : entW x' r = (entW x r).set j u) (eh : x'.hs = x.hs) (eb : x'.bl = x.bl) (et : x'.ts = x.ts) : StoLV (w.setCell ⟨g, i * 13 + j, none⟩ u) base v2 (.slice (some ⟨g, 0, none⟩) n cap) l2 (A ++ (x', r) :: B) :=
  ⟨h.t.out (Out.set w g _ u) (fun b hb e => by simp at e; subst e; exact h.nd b hb (by simp [fp, Value.ownBlock])), h.k.set hi j hj u x' e eh eb et, fun b hb => by rw [fp_mid _ A B x x' r]; exact h.nd b hb⟩
end
theorem entC_pins {x : Ent} (h : entC x = 0) : 0 ≤ x.pins ∧ x.pins ≤ 20 := by
  have := (entryC_zero h).2.2.1
  unfold pinB at this
  simpa using this
def pinBy (by' : Int) (x : Ent) : Ent := { x with pins := x.pins + by' }
set_option maxRecDepth 100000 in
set_option maxHeartbeats 16000000 in
theorem l8Pin_at (w : World) (B base : Nat) (bu gu by' : Int) (a1 a2 : Option Addr) (n1 k1 n2 k2 : Nat) (m1 m2 : List (Ent × EntR)) (key : ByteArray) (hs : S4 w B (.int .i64 bu) (.int .i64 gu) (.slice a1 n1 k1) (.slice a2 n2 k2)) (h : StoLV w base (.slice a1 n1 k1) (.slice a2 n2 k2) m1 m2) (hB1 : B ∉ fp (.slice a1 n1 k1) m1) (hB2 : B ∉ fp (.slice a2 n2 k2) m2) (hbB : base ≤ B) (z1 : m1.length ≤ 40) (z2 : m2.length ≤ 40) (hnd : NdK ((m1 ++ m2).map Prod.fst)) (hp : ∀ q ∈ m1 ++ m2, isKey key q.1 = true → 0 ≤ q.1.pins + by' ∧ q.1.pins + by' ≤ 20) :
    Calls Tryz.prog 103 #[.pointer (some ⟨B, 0, none⟩), .string key, .int .i64 by'] w fun e w' => e = .returned (.tuple #[]) ∧ S4 w' B (.int .i64 bu) (.int .i64 gu) (.slice a1 n1 k1) (.slice a2 n2 k2) ∧ StoLV w' base (.slice a1 n1 k1) (.slice a2 n2 k2) (turnM (isKey key) (pinBy by') m1) (turnM (isKey key) (pinBy by') m2) ∧ Below base w w' := by
  have hnd' := hnd
  rw [List.map_append] at hnd'
  obtain ⟨d1, d2, _⟩ := NdK.app hnd'
  -- the first list
  have C1 : Hid (Calls Tryz.prog 138 #[.slice a1 n1 k1, .string key] w fun e w' => ((∃ (i G : Nat) (pn : Int), e = .returned (.int .i64 (i : Int)) ∧ i < n1 ∧ i ≤ 40 ∧ a1 = some ⟨G, 0, none⟩ ∧ w'.cell? ⟨B, 2, none⟩ = some (.slice a1 n1 k1) ∧ w'.cell? ⟨G, i * 13 + 12, none⟩ = some (.int .i64 pn) ∧ w'.frozen? ⟨G, i * 13 + 12, none⟩ = false ∧ 0 ≤ pn + by' ∧ pn + by' ≤ 20 ∧ S4 (w'.setCell ⟨G, i * 13 + 12, none⟩ (.int .i64 (pn + by'))) B (.int .i64 bu) (.int .i64 gu) (.slice a1 n1 k1) (.slice a2 n2 k2) ∧ StoLV (w'.setCell ⟨G, i * 13 + 12, none⟩ (.int .i64 (pn + by'))) base (.slice a1 n1 k1) (.slice a2 n2 k2) (turnM (isKey key) (pinBy by') m1) m2 ∧ Below base w (w'.setCell ⟨G, i * 13 + 12, none⟩ (.int .i64 (pn + by')))) ∨ (e = .returned (.int .i64 (-1)) ∧ S4 w' B (.int .i64 bu) (.int .i64 gu) (.slice a1 n1 k1) (.slice a2 n2 k2) ∧ StoLV w' base (.slice a1 n1 k1) (.slice a2 n2 k2) (turnM (isKey key) (pinBy by') m1) m2 ∧ Below base w w'))) := by
    obtain ⟨rfl, i1⟩ := slice_len h.t
    refine (l8Find_any w a1 k1 m1 key (by omega) i1).mono ?_
    rintro e w' ⟨hc, hb⟩
    have hb0 : base ≤ w.heap.size := by have := hs.lt; omega
    have hh := h.below hb
    have ss := hs.keep hb
    rcases hc with ⟨i, q, hq, hk, _, rfl⟩ | ⟨hn, rfl⟩
    · obtain ⟨A, C, em, hA⟩ := mid_split hq
      obtain ⟨x, r⟩ := q
      have hpn := hp (x, r) (List.mem_append_left _ (List.mem_of_getElem? hq)) hk
      have hlt := (List.getElem?_eq_some_iff.1 hq).1
      rcases hh.t.form with ⟨_, e0⟩ | ⟨G, c, e0, _⟩
      · rw [e0] at hq; simp at hq
      · have ea : a1 = some ⟨G, 0, none⟩ := by simp only [Value.slice.injEq] at e0; exact e0.1
        subst ea
        have hmid := NdK.mid (key := key) (by rw [← em]; exact d1) hk
        have cells := hh.t.at.2.2.2.2.1 i (x, r) hq 12 (by omega)
        have hBG : B ≠ G := fun e => hB1 (by subst e; simp [fp, Value.ownBlock])
        refine .inl ⟨i, G, x.pins, rfl, hlt, by omega, rfl, ss.c2, cells, hh.t.at.2.2.2.2.2 _, hpn.1, hpn.2, ss.off (fun e => hBG e.symm), ?_, (hb.mono hb0).setCell hh.t.at.2.2.1 _⟩
        have e2 : turnM (isKey key) (pinBy by') m1 = A ++ (pinBy by' x, r) :: C := by rw [em]; exact turnM_mid hk hmid.1 hmid.2
        rw [e2]
        have hh2 := hh
        rw [em] at hh2
        have := hh2.setT hA 12 (by omega) (.int .i64 (x.pins + by')) (pinBy by' x) rfl rfl rfl rfl
        rw [← em] at this
        exact this
    · refine .inr ⟨rfl, ss, ?_, hb.mono hb0⟩
      rw [turnM_none (fun q hq => by have := List.find?_eq_none.1 hn q.1 (List.mem_map_of_mem hq); simpa using this)]
      exact hh
  have C2 : Hid (∀ X M1, M1.length = m1.length → S4 X B (.int .i64 bu) (.int .i64 gu) (.slice a1 n1 k1) (.slice a2 n2 k2) → StoLV X base (.slice a1 n1 k1) (.slice a2 n2 k2) M1 m2 → Below base w X → Calls Tryz.prog 138 #[.slice a2 n2 k2, .string key] X fun e w' => ((∃ (i G : Nat) (pn : Int), e = .returned (.int .i64 (i : Int)) ∧ i < n2 ∧ i ≤ 40 ∧ a2 = some ⟨G, 0, none⟩ ∧ w'.cell? ⟨B, 3, none⟩ = some (.slice a2 n2 k2) ∧ w'.cell? ⟨G, i * 13 + 12, none⟩ = some (.int .i64 pn) ∧ w'.frozen? ⟨G, i * 13 + 12, none⟩ = false ∧ 0 ≤ pn + by' ∧ pn + by' ≤ 20 ∧ (S4 (w'.setCell ⟨G, i * 13 + 12, none⟩ (.int .i64 (pn + by'))) B (.int .i64 bu) (.int .i64 gu) (.slice a1 n1 k1) (.slice a2 n2 k2) ∧ StoLV (w'.setCell ⟨G, i * 13 + 12, none⟩ (.int .i64 (pn + by'))) base (.slice a1 n1 k1) (.slice a2 n2 k2) M1 (turnM (isKey key) (pinBy by') m2) ∧ Below base w (w'.setCell ⟨G, i * 13 + 12, none⟩ (.int .i64 (pn + by'))))) ∨ (e = .returned (.int .i64 (-1)) ∧ S4 w' B (.int .i64 bu) (.int .i64 gu) (.slice a1 n1 k1) (.slice a2 n2 k2) ∧ StoLV w' base (.slice a1 n1 k1) (.slice a2 n2 k2) M1 (turnM (isKey key) (pinBy by') m2) ∧ Below base w w'))) := fun X M1 _ hs h hbX => by
    obtain ⟨rfl, i1⟩ := slice_len h.k
    refine (l8Find_any X a2 k2 m2 key (by omega) i1).mono ?_
    rintro e w' ⟨hc, hb⟩
    have hb0 : base ≤ X.heap.size := by have := hs.lt; omega
    have hh := h.below hb
    have ss := hs.keep hb
    rcases hc with ⟨i, q, hq, hk, _, rfl⟩ | ⟨hn, rfl⟩
    · obtain ⟨A, C, em, hA⟩ := mid_split hq
      obtain ⟨x, r⟩ := q
      have hpn := hp (x, r) (List.mem_append_right _ (List.mem_of_getElem? hq)) hk
      have hlt := (List.getElem?_eq_some_iff.1 hq).1
      rcases hh.k.form with ⟨_, e0⟩ | ⟨G, c, e0, _⟩
      · rw [e0] at hq; simp at hq
      · have ea : a2 = some ⟨G, 0, none⟩ := by simp only [Value.slice.injEq] at e0; exact e0.1
        subst ea
        have hmid := NdK.mid (key := key) (by rw [← em]; exact d2) hk
        have cells := hh.k.at.2.2.2.2.1 i (x, r) hq 12 (by omega)
        have hBG : B ≠ G := fun e => hB2 (by subst e; simp [fp, Value.ownBlock])
        refine .inl ⟨i, G, x.pins, rfl, hlt, by omega, rfl, ss.c3, cells, hh.k.at.2.2.2.2.2 _, hpn.1, hpn.2, ss.off (fun e => hBG e.symm), ?_, (hbX.trans (hb.mono hb0)).setCell hh.k.at.2.2.1 _⟩
        have e2 : turnM (isKey key) (pinBy by') m2 = A ++ (pinBy by' x, r) :: C := by rw [em]; exact turnM_mid hk hmid.1 hmid.2
        rw [e2]
        have hh2 := hh
        rw [em] at hh2
        have := hh2.setK hA 12 (by omega) (.int .i64 (x.pins + by')) (pinBy by' x) rfl rfl rfl rfl
        rw [← em] at this
        exact this
    · refine .inr ⟨rfl, ss, ?_, hbX.trans (hb.mono hb0)⟩
      rw [turnM_none (fun q hq => by have := List.find?_eq_none.1 hn q.1 (List.mem_map_of_mem hq); simpa using this)]
      exact hh
  have e2 := hs.c2
  have HLN : Hid ((turnM (isKey key) (pinBy by') m1).length = m1.length) := turnM_len _ _ _
  clear hs h hB1 hB2 hnd hnd' d1 d2 hp z1 z2 hbB
  generalize turnM (isKey key) (pinBy by') m1 = M1 at *
  generalize turnM (isKey key) (pinBy by') m2 = M2 at *
  go_enter Tryz.func103, Tryz.ntmps103
  go_wp2_with fail
  refine C1.out.mono ?_
  rintro e w1 (⟨i, G, pn, rfl, hi, hi4, rfl, y2, yG, yf, p0, p1, hnx⟩ | ⟨rfl, hnx⟩)
  · have HX : Hid (S4 (w1.setCell ⟨G, i * 13 + 12, none⟩ (.int .i64 (pn + by'))).drew B (.int .i64 bu) (.int .i64 gu) (.slice (some ⟨G, 0, none⟩) n1 k1) (.slice a2 n2 k2) ∧ StoLV (w1.setCell ⟨G, i * 13 + 12, none⟩ (.int .i64 (pn + by'))).drew base (.slice (some ⟨G, 0, none⟩) n1 k1) (.slice a2 n2 k2) M1 m2 ∧ Below base w (w1.setCell ⟨G, i * 13 + 12, none⟩ (.int .i64 (pn + by'))).drew) := ⟨hnx.1.keep ((Below.refl _ _).drew), hnx.2.1.below ((Below.refl _ _).drew), hnx.2.2.drew⟩
    have gi : (i : Int) < n1 := by omega
    have gi0 : (0 : Int) ≤ i := by omega
    have ew : IntKind.i64.wrap (pn + by') = pn + by' := by unfold IntKind.wrap; simp [IntKind.signed, IntKind.bits]; omega
    have CC := C2.out _ M1 HLN.out HX.out.1 HX.out.2.1 HX.out.2.2
    have z3 := HX.out.1.c3
    clear C1 C2 hnx HX e2
    go_wp2_with fail
    go_region
    clear y2 yG yf p0 p1 ew gi gi0 hi hi4
    go_wp2_with fail
    refine CC.mono ?_
    clear z3 CC
    rintro e w2 (⟨i, G, pn, rfl, hi, hi4, rfl, y2, yG, yf, p0, p1, hnx⟩ | ⟨rfl, hnx⟩)
    · have HX : Hid _ := hnx
      have gi : (i : Int) < n2 := by omega
      have gi0 : (0 : Int) ≤ i := by omega
      have ew : IntKind.i64.wrap (pn + by') = pn + by' := by unfold IntKind.wrap; simp [IntKind.signed, IntKind.bits]; omega
      clear hnx
      go_wp2_with fail
      go_region
      clear y2 yG yf p0 p1 ew gi gi0 hi hi4
      go_wp2_with fail
      exact bodyPost_end (v := .tuple #[]) (by simp [results, Tryz.results103, go_sem]) rfl ⟨rfl, HX.out.1.keep ((Below.refl _ _).drew), HX.out.2.1.below ((Below.refl _ _).drew), HX.out.2.2.drew⟩
    · have HX : Hid _ := hnx
      clear hnx
      go_wp2_with fail
      exact bodyPost_end (v := .tuple #[]) (by simp [results, Tryz.results103, go_sem]) rfl ⟨rfl, HX.out⟩
  · have CC := C2.out _ M1 HLN.out hnx.1 hnx.2.1 hnx.2.2
    have z3 := hnx.1.c3
    clear C1 C2 hnx e2
    go_wp2_with fail
    refine CC.mono ?_
    clear z3 CC
    rintro e w2 (⟨i, G, pn, rfl, hi, hi4, rfl, y2, yG, yf, p0, p1, hnx⟩ | ⟨rfl, hnx⟩)
    · have HX : Hid _ := hnx
      have gi : (i : Int) < n2 := by omega
      have gi0 : (0 : Int) ≤ i := by omega
      have ew : IntKind.i64.wrap (pn + by') = pn + by' := by unfold IntKind.wrap; simp [IntKind.signed, IntKind.bits]; omega
      clear hnx
      go_wp2_with fail
      go_region
      clear y2 yG yf p0 p1 ew gi gi0 hi hi4
      go_wp2_with fail
      exact bodyPost_end (v := .tuple #[]) (by simp [results, Tryz.results103, go_sem]) rfl ⟨rfl, HX.out.1.keep ((Below.refl _ _).drew), HX.out.2.1.below ((Below.refl _ _).drew), HX.out.2.2.drew⟩
    · have HX : Hid _ := hnx
      clear hnx
      go_wp2_with fail
      exact bodyPost_end (v := .tuple #[]) (by simp [results, Tryz.results103, go_sem]) rfl ⟨rfl, HX.out⟩
end Go.Proofs.YtmidfgjnaebfiaaGreatDoor
/-
  A key taken out of a list, by the model.
-/
namespace Go.Proofs.YtmidfgjnaebfiaaGreatDoor
open Go.ChangeShapes Go.WideShapes Go.ChangeAt Go.RowKit Go.Sort
def offKey (key : ByteArray) (l : List (Ent × EntR)) : List (Ent × EntR) := l.filter fun q => !isKey key q.1
theorem offKey_next {key : ByteArray} {l : List (Ent × EntR)} {k : Nat} {q : Ent × EntR} (h : l[k]? = some q) : offKey key (l.take (k + 1)) = if isKey key q.1 then offKey key (l.take k) else offKey key (l.take k) ++ [q] := by
  unfold offKey
  rw [take_next h, List.filter_append]
  cases hk : isKey key q.1 <;> simp [hk]
theorem foot_sub {l m : List (Ent × EntR)} (h : l.Sublist m) : (foot l).Sublist (foot m) := by
  induction h with
  | slnil => exact .slnil
  | cons a _ ih => exact ih.trans (List.sublist_append_right _ _)
  | cons_cons a _ ih => exact (List.Sublist.refl _).append ih
theorem offKey_len (key : ByteArray) (l : List (Ent × EntR)) : (offKey key l).length ≤ l.length := List.length_filter_le _ _
set_option maxRecDepth 100000 in
set_option maxHeartbeats 8000000 in
theorem l8Without_any (w : World) (a : Option Addr) (cap : Nat) (l : List (Ent × EntR)) (key : ByteArray) (hl : l.length ≤ 1048576) (hi : EntsIn w a l) :
    Calls Tryz.prog 158 #[.slice a l.length cap, .string key] w fun e w' => (∃ v, e = .returned v ∧ OwnE w' w.heap.size v (offKey key l)) ∧ Below w.heap.size w w' := by
  obtain ⟨i0, hi0, hz0, hz1, hz2⟩ := info_parts infoEntry
  have HI : Hid (EntsIn w a l) := hi
  have HS : Hid (OwnE (w.alloc (.cells #[] 32)) w.heap.size (.slice (some ⟨w.heap.size, 0, none⟩) 0 0) (offKey key (l.take 0)) ∧ Below w.heap.size w (w.alloc (.cells #[] 32))) := ⟨OwnE.made0 w _ (Nat.le_refl _), (Below.refl _ _).alloc (Nat.le_refl _) _⟩
  clear hi
  obtain ⟨n, hn0⟩ : ∃ n, l.length = n := ⟨_, rfl⟩
  rw [hn0] at hl ⊢
  have HN : Hid (l.length = n) := hn0
  clear hn0
  go_enter Tryz.func158, Tryz.ntmps158
  go_wp2_with fail
  go_loopw [5, 6] (fun v i wr => ∃ k : Nat, k ≤ n ∧ i = .int .i64 (k : Int) ∧ OwnE wr w.heap.size v (offKey key (l.take k)) ∧ Below w.heap.size w wr) (fun _ i _ => n - (intOf i).toNat)
  case atStart => exact ⟨0, Nat.zero_le _, rfl, HS.out⟩
  case round =>
    obtain ⟨k, hk, rfl, ho, hb⟩ := hrel
    clear HS
    by_cases hlt : k < n
    · obtain ⟨⟨x, r⟩, hr⟩ : ∃ r, l[k]? = some r := ⟨l[k]'(by have := HN.out; omega), List.getElem?_eq_getElem _⟩
      rcases HI.out with h | ⟨b, off, rfl, hat⟩
      · subst h; simp at hr
      obtain ⟨p0, p1, p2, p3, p4, p5, p6, p7, p8, p9, p10, p11, p12⟩ := (hat.keep hb).cells hr
      have gk : (k : Int) < n := by omega
      have gk0 : (0 : Int) ≤ k := by omega
      have hnx := offKey_next (key := key) hr
      have hln : (offKey key (l.take k)).length ≤ 1048576 := by have := offKey_len key (l.take k); rw [List.length_take] at this; have := HN.out; omega
      obtain ⟨m, hm⟩ : ∃ m, m = offKey key (l.take k) := ⟨_, rfl⟩
      rw [← hm] at ho hnx hln
      obtain ⟨va, vc, rfl, hvc⟩ := row_form ho
      have HO : Hid (OwnE wr w.heap.size (.slice va m.length vc) m) := ho
      have HB : Hid (Below w.heap.size w wr) := hb
      clear hat hr hm ho hb
      cases he : (x.key.toList == key.toList)
      · rw [if_neg (by show ¬ (x.key.toList == key.toList) = true; rw [he]; decide)] at hnx
        have K2 : Below wr.heap.size wr (wr.alloc (.cells #[.string x.key, .int .i64 x.st, .slice r.ha x.hs.length r.hc, .slice r.ba x.bl.length r.bc, .int .i64 x.t, .int .i64 x.g, .int .i64 x.l, .int .i64 x.s, .int .i64 x.e, .bool x.b1, .bool x.b2, .slice r.ta x.ts.length r.tc, .int .i64 x.pins] 32)) := (Below.refl _ _).alloc (Nat.le_refl _) _
        have O2 : Hid ((wr.alloc (.cells #[.string x.key, .int .i64 x.st, .slice r.ha x.hs.length r.hc, .slice r.ba x.bl.length r.bc, .int .i64 x.t, .int .i64 x.g, .int .i64 x.l, .int .i64 x.s, .int .i64 x.e, .bool x.b1, .bool x.b2, .slice r.ta x.ts.length r.tc, .int .i64 x.pins] 32)).ownsRow w.heap.size 32 13 (.slice va m.length vc) m.length (entsW m)) := HO.out.below K2
        have s2 : Hid (w.heap.size ≤ (wr.alloc (.cells #[.string x.key, .int .i64 x.st, .slice r.ha x.hs.length r.hc, .slice r.ba x.bl.length r.bc, .int .i64 x.t, .int .i64 x.g, .int .i64 x.l, .int .i64 x.s, .int .i64 x.e, .bool x.b1, .bool x.b2, .slice r.ta x.ts.length r.tc, .int .i64 x.pins] 32)).heap.size) := by show _ ≤ _; have := K2.size; have := HB.out.size; omega
        have HA : Hid (∀ g cap w3, w3.ownsRow w.heap.size 32 13 (.slice (some ⟨g, 0, none⟩) (m.length + 1) cap) (m.length + 1) (entsW m ++ entW x r) → (wr.alloc (.cells #[.string x.key, .int .i64 x.st, .slice r.ha x.hs.length r.hc, .slice r.ba x.bl.length r.bc, .int .i64 x.t, .int .i64 x.g, .int .i64 x.l, .int .i64 x.s, .int .i64 x.e, .bool x.b1, .bool x.b2, .slice r.ta x.ts.length r.tc, .int .i64 x.pins] 32)).grownBy w3 (Value.slice va m.length vc).ownBlock → OwnE w3 w.heap.size (.slice (some ⟨g, 0, none⟩) (m.length + 1) cap) (offKey key (l.take (k + 1))) ∧ Below w.heap.size w w3) := fun g cap w3 h1 h2 => by
          have hB : Below w.heap.size (wr.alloc (.cells #[.string x.key, .int .i64 x.st, .slice r.ha x.hs.length r.hc, .slice r.ba x.bl.length r.bc, .int .i64 x.t, .int .i64 x.g, .int .i64 x.l, .int .i64 x.s, .int .i64 x.e, .bool x.b1, .bool x.b2, .slice r.ta x.ts.length r.tc, .int .i64 x.pins] 32)) w3 := (Below.refl _ _).grown h2 s2.out (fun q hq => row_ge O2.out q hq)
          refine ⟨?_, (HB.out.trans (K2.mono HB.out.size)).trans hB⟩
          rw [hnx]
          unfold OwnE
          rw [entsW_app]
          simpa [entsW] using h1
        have HW : Hid (∀ j u, (entW x r)[j]? = some u → (wr.alloc (.cells #[.string x.key, .int .i64 x.st, .slice r.ha x.hs.length r.hc, .slice r.ba x.bl.length r.bc, .int .i64 x.t, .int .i64 x.g, .int .i64 x.l, .int .i64 x.s, .int .i64 x.e, .bool x.b1, .bool x.b2, .slice r.ta x.ts.length r.tc, .int .i64 x.pins] 32)).cell? ((⟨wr.heap.size, 0, none⟩ : Addr).add j) = some u) := entW_cells wr x r _
        obtain ⟨mn, hmn⟩ : ∃ q, m.length = q := ⟨_, rfl⟩
        rw [hmn] at O2 HA hln hvc ⊢
        clear K2 hnx HO HB hmn
        go_wp2_with (at_builtin; refine wpList_append_lies _ rfl (.tmp 21) (.tmp 26) 36 rfl w.heap.size 32 i0 _ 13 152 Tryz.underlying36 hi0 hz0 hz1 hz2 rfl (by omega) _ mn (entsW m) rfl O2.out _ 1 1 (entW x r) rfl rfl HW.out (entW_one x r) (by omega) (by unfold maxLen; omega) (by omega) s2.out _ rfl ?_; intro g cp w3 h1 h2 h3 h4)
        go_roundw
        case rel => exact ⟨k + 1, by omega, by go_num, HA.out _ _ _ h1 h2⟩
        case measure => simp [intOf]; omega
      · rw [if_pos (by show (x.key.toList == key.toList) = true; rw [he])] at hnx
        have HA : Hid (OwnE wr w.heap.size (.slice va m.length vc) (offKey key (l.take (k + 1))) ∧ Below w.heap.size w wr) := ⟨by rw [hnx]; exact HO.out, HB.out⟩
        clear hnx HO HB
        generalize m.length = mn at *
        generalize x.key = xk at *
        go_wp2_with fail
        go_roundw
        case rel => exact ⟨k + 1, by omega, by go_num, HA.out⟩
        case measure => simp [intOf]; omega
    · have ek : k = n := by omega
      subst ek
      obtain ⟨va, vc, rfl, _⟩ := row_form ho
      have HE : Hid ((∃ v', Ending.returned (.slice va (offKey key (l.take k)).length vc) = .returned v' ∧ OwnE wr w.heap.size v' (offKey key l)) ∧ Below w.heap.size w wr) := ⟨⟨_, rfl, by rw [List.take_of_length_le (by have := HN.out; omega)] at ho ⊢; exact ho⟩, hb⟩
      clear ho hb
      go_wp2_with fail
      go_ret
      exact HE.out
theorem EntsO.without {w w' : World} {base : Nat} {v v' : Value} {l : List (Ent × EntR)} {key : ByteArray} (h : EntsO w base v l) (hb : Below w.heap.size w w') (hbase : base ≤ w.heap.size) (ho : OwnE w' w.heap.size v' (offKey key l)) : EntsO w' base v' (offKey key l) := by
  have nd := List.nodup_append.1 h.nd
  have sub : (foot (offKey key l)).Sublist (foot l) := foot_sub List.filter_sublist
  refine ⟨ho.lower hbase, fun q hq => (h.rows q (List.mem_filter.1 hq).1).below hb, List.nodup_append.2 ⟨by cases v'.ownBlock <;> simp, nd.2.1.sublist sub, fun a ha b hb2 e => ?_⟩⟩
  subst e
  simp only [Option.mem_toList] at ha
  have h1 := (World.ownsRow.lt ho a ha).1
  have h2 := h.lt (List.mem_append.2 (.inr (sub.subset hb2)))
  omega
end Go.Proofs.YtmidfgjnaebfiaaGreatDoor
/-
  A key taken out of a store, by the model.
-/
namespace Go.Proofs.YtmidfgjnaebfiaaGreatDoor
open Go.ChangeShapes Go.WideShapes Go.ChangeAt Go.RowKit Go.Sort
theorem row_far1 {w : World} {base : Nat} {e : TypeId} {size : Nat} {v : Value} {n : Nat} {xs : List Value} (h : w.ownsRow base e size v n xs) {b i : Nat} (u : Value) (hb : v.ownBlock ≠ some b) : (w.setCell ⟨b, i, none⟩ u).ownsRow base e size v n xs := by
  obtain ⟨h1, h2⟩ := h
  refine ⟨h1, ?_⟩
  rcases h2 with h2 | ⟨g, c, cur, e', hg, hh, hrest⟩
  · exact .inl h2
  · refine .inr ⟨g, c, cur, e', hg, ?_, hrest⟩
    rw [heap_setCell_other w ⟨b, i, none⟩ g u (by intro e2; simp only at e2; subst e2; exact hb (by rw [e']; rfl))]
    exact hh
theorem EntsO.ne {w : World} {base : Nat} {v : Value} {l : List (Ent × EntR)} (h : EntsO w base v l) {b i : Nat} (u : Value) (hb : b ∉ v.ownBlock.toList ++ foot l) : EntsO (w.setCell ⟨b, i, none⟩ u) base v l :=
  ⟨row_far1 h.own u (fun e => hb (List.mem_append.2 (.inl (by simp [e])))), fun q hq => (h.rows q hq).far (by simp) fun b' hb' _ o =>
    ⟨World.cell?_setCell_other _ _ _ _ (by intro e; have := congrArg Addr.block e; simp at this; subst this; exact hb (List.mem_append.2 (.inr (List.mem_flatMap.2 ⟨q, hq, hb'⟩)))), World.frozen?_setCell _ _ _ _⟩, h.nd⟩
theorem EntsO.in {w : World} {base : Nat} {v : Value} {l : List (Ent × EntR)} (h : EntsO w base v l) : ∃ a c, v = .slice a l.length c ∧ l.length ≤ c ∧ EntsIn w a l := h.own.at fun q hq => (h.rows q hq).in
theorem foot_off {key : ByteArray} {l : List (Ent × EntR)} {b : Nat} (h : b ∈ foot (offKey key l)) : b ∈ foot l := (foot_sub List.filter_sublist).subset h
set_option maxRecDepth 100000 in
set_option maxHeartbeats 8000000 in
theorem l8Drop_at (w : World) (B base : Nat) (bu gu : Int) (v1 v2 : Value) (l1 l2 : List (Ent × EntR)) (key : ByteArray) (hs : S4 w B (.int .i64 bu) (.int .i64 gu) v1 v2) (h : StoO w base v1 v2 l1 l2) (hbase : base ≤ w.heap.size) (hB1 : B ∉ v1.ownBlock.toList ++ foot l1) (hB2 : B ∉ v2.ownBlock.toList ++ foot l2) (n1 : l1.length ≤ 1048576) (n2 : l2.length ≤ 1048576) :
    Calls Tryz.prog 104 #[.pointer (some ⟨B, 0, none⟩), .string key] w fun e w' => e = .returned (.tuple #[]) ∧ (∃ u1 u2, S4 w' B (.int .i64 bu) (.int .i64 gu) u1 u2 ∧ StoO w' base u1 u2 (offKey key l1) (offKey key l2) ∧ B ∉ u1.ownBlock.toList ++ foot (offKey key l1) ∧ B ∉ u2.ownBlock.toList ++ foot (offKey key l2)) ∧ Below B w w' := by
  obtain ⟨a1, c1, rfl, _, i1⟩ := h.t.in
  obtain ⟨a2, c2, rfl, _, i2⟩ := h.k.in
  have hBl := hs.lt
  have C1 : Hid (Calls Tryz.prog 158 #[.slice a1 l1.length c1, .string key] w fun e w1 => (∃ u1c u1a u1n, e = .returned (.slice u1a u1n u1c) ∧ (S4 (w1.setCell ⟨B, 2, none⟩ (.slice u1a u1n u1c)) B (.int .i64 bu) (.int .i64 gu) (.slice u1a u1n u1c) (.slice a2 l2.length c2) ∧ w1.cell? ⟨B, 2, none⟩ = some (.slice a1 l1.length c1) ∧ w1.frozen? ⟨B, 2, none⟩ = false ∧ Below B w (w1.setCell ⟨B, 2, none⟩ (.slice u1a u1n u1c)) ∧
      StoO (w1.setCell ⟨B, 2, none⟩ (.slice u1a u1n u1c)) base (.slice u1a u1n u1c) (.slice a2 l2.length c2) (offKey key l1) l2 ∧ base ≤ (w1.setCell ⟨B, 2, none⟩ (.slice u1a u1n u1c)).heap.size ∧ B ∉ (Value.slice u1a u1n u1c).ownBlock.toList ++ foot (offKey key l1)))) := by
    refine (l8Without_any w a1 c1 l1 key n1 i1).mono ?_
    rintro e w1 ⟨⟨u, rfl, ho⟩, hb⟩
    obtain ⟨ua, uc, rfl, _⟩ := row_form ho
    have t1 := h.t.without hb hbase ho
    have k1 := h.k.below hb
    have s1 := hs.keep hb
    have nB : B ∉ (Value.slice ua (offKey key l1).length uc).ownBlock.toList ++ foot (offKey key l1) := fun hm => by
      rcases List.mem_append.1 hm with hm | hm
      · simp only [Option.mem_toList] at hm
        have := (World.ownsRow.lt ho B hm).1
        omega
      · exact hB1 (List.mem_append.2 (.inr (foot_off hm)))
    refine ⟨uc, ua, _, rfl, s1.set2 _, s1.c2, s1.fr 2, (hb.mono (Nat.le_of_lt hBl)).setCell (Nat.le_refl _) _, ⟨t1.ne _ nB, k1.ne _ hB2, fun b h1 h2 => ?_⟩, by have := hb.size; simp; omega, nB⟩
    rcases List.mem_append.1 h1 with h1 | h1
    · simp only [Option.mem_toList] at h1
      have := (World.ownsRow.lt ho b h1).1
      have := h.k.lt h2
      omega
    · exact h.nd b (List.mem_append.2 (.inr (foot_off h1))) h2
  have C2 : Hid (∀ X u1, S4 X B (.int .i64 bu) (.int .i64 gu) u1 (.slice a2 l2.length c2) → Below B w X → StoO X base u1 (.slice a2 l2.length c2) (offKey key l1) l2 → base ≤ X.heap.size → B ∉ u1.ownBlock.toList ++ foot (offKey key l1) → Calls Tryz.prog 158 #[.slice a2 l2.length c2, .string key] X fun e w1 => (∃ u2c u2a u2n, e = .returned (.slice u2a u2n u2c) ∧ (w1.cell? ⟨B, 3, none⟩ = some (.slice a2 l2.length c2) ∧ w1.frozen? ⟨B, 3, none⟩ = false ∧ ((∃ u1 u2, S4 (w1.setCell ⟨B, 3, none⟩ (.slice u2a u2n u2c)) B (.int .i64 bu) (.int .i64 gu) u1 u2 ∧ StoO (w1.setCell ⟨B, 3, none⟩ (.slice u2a u2n u2c)) base u1 u2 (offKey key l1) (offKey key l2) ∧ B ∉ u1.ownBlock.toList ++ foot (offKey key l1) ∧ B ∉ u2.ownBlock.toList ++ foot (offKey key l2)) ∧ Below B w (w1.setCell ⟨B, 3, none⟩ (.slice u2a u2n u2c)))))) := fun X u1 s hX hst hbX nB1 => by
    have hin := hst.k.in
    obtain ⟨a3, c3, e3, _, i3⟩ := hin
    simp only [Value.slice.injEq, true_and] at e3
    obtain ⟨rfl, rfl⟩ := e3
    refine (l8Without_any X a2 c2 l2 key n2 i3).mono ?_
    rintro e w1 ⟨⟨u, rfl, ho⟩, hb⟩
    obtain ⟨ua, uc, rfl, _⟩ := row_form ho
    have k1 := hst.k.without hb hbX ho
    have t1 := hst.t.below hb
    have s1 := s.keep hb
    have sl := s.lt
    have nB : B ∉ (Value.slice ua (offKey key l2).length uc).ownBlock.toList ++ foot (offKey key l2) := fun hm => by
      rcases List.mem_append.1 hm with hm | hm
      · simp only [Option.mem_toList] at hm
        have := (World.ownsRow.lt ho B hm).1
        omega
      · exact hB2 (List.mem_append.2 (.inr (foot_off hm)))
    refine ⟨uc, ua, _, rfl, s1.c3, s1.fr 3, ⟨u1, _, s1.set3 _, ⟨t1.ne _ nB1, k1.ne _ nB, fun b h1 h2 => ?_⟩, nB1, nB⟩, (hX.trans (hb.mono (Nat.le_of_lt sl))).setCell (Nat.le_refl _) _⟩
    rcases List.mem_append.1 h2 with h2 | h2
    · simp only [Option.mem_toList] at h2
      have := (World.ownsRow.lt ho b h2).1
      have := hst.t.lt h1
      omega
    · exact hst.nd b h1 (List.mem_append.2 (.inr (foot_off h2)))
  have e2 := hs.c2
  clear hs h hbase hB1 hB2 n1 n2 i1 i2 hBl
  generalize l1.length = m1 at *
  generalize l2.length = m2 at *
  go_enter Tryz.func104, Tryz.ntmps104
  go_wp2_with fail
  refine C1.out.mono ?_
  rintro e w1 ⟨uc, ua, un, rfl, s1, x2, xf, hb1, st1, sz1, nB1⟩
  have CC := C2.out _ _ s1 hb1 st1 sz1 nB1
  have y3 := s1.c3
  clear C1 C2 s1 hb1 st1 sz1 nB1 e2
  go_wp2_with fail
  refine CC.mono ?_
  rintro e w2 ⟨vc, va, vn, rfl, x3, xf3, hfin, hb2⟩
  have HFIN : Hid _ := hfin
  have HB2 : Hid _ := hb2
  clear hfin hb2 CC y3 x2 xf
  go_wp2_with fail
  exact bodyPost_end (v := .tuple #[]) (by simp [results, Tryz.results104, go_sem]) rfl ⟨rfl, HFIN.out, HB2.out⟩
end Go.Proofs.YtmidfgjnaebfiaaGreatDoor
/-
  Pieces of the program's copying of an entry: lineOf, bytes.Clone, one more behind a row.
-/
namespace Go.Proofs.YtmidfgjnaebfiaaGreatDoor
open Go.ChangeShapes Go.WideShapes Go.ChangeAt Go.RowKit Go.Sort
set_option maxHeartbeats 2000000 in
theorem lineOf_anew (n z : ByteArray) (w : World) (hn : n.size ≤ 1048576) (hz : z.size ≤ 1048576) :
    Calls Tryz.prog 188 #[.string n, .string z] w fun e w' => e = .returned (.agg #[.string n, .string z]) ∧ Below w.heap.size w w' := by
  have C1 : Hid (∀ X, Calls Tryz.prog 140 #[.string n] X fun e w' => e = .returned (.string n) ∧ Below X.heap.size X w') := fun X => clone_text n X hn
  have C2 : Hid (∀ X, Calls Tryz.prog 140 #[.string z] X fun e w' => e = .returned (.string z) ∧ Below X.heap.size X w') := fun X => clone_text z X hz
  obtain ⟨W, hW⟩ : ∃ W, W = w.alloc (.cells #[.string ⟨#[]⟩, .string ⟨#[]⟩] 174) := ⟨_, rfl⟩
  have HW : Hid (W = w.alloc (.cells #[.string ⟨#[]⟩, .string ⟨#[]⟩] 174)) := hW
  have K0 : Hid (Below w.heap.size w W ∧ W.cell? ⟨w.heap.size, 0, none⟩ = some (.string ⟨#[]⟩) ∧ W.cell? ⟨w.heap.size, 1, none⟩ = some (.string ⟨#[]⟩) ∧ (∀ o, W.frozen? ⟨w.heap.size, o, none⟩ = false) ∧ w.heap.size < W.heap.size) := by
    rw [hW]; exact ⟨(Below.refl _ _).alloc (Nat.le_refl _) _, by simp, by simp, fun o => by simp, by simp⟩
  clear hW
  go_enter Tryz.func188, Tryz.ntmps188
  go_wp2_with fail
  rw [← HW.out]
  refine (C1.out _).mono ?_
  rintro e w1 ⟨rfl, hb1⟩
  go_wp2_with fail
  refine (C2.out _).mono ?_
  rintro e w2 ⟨rfl, hb2⟩
  have b2 : Below W.heap.size W w2 := hb1.trans (hb2.mono hb1.size)
  have r0 : w2.cell? ⟨w.heap.size, 0, none⟩ = some (.string ⟨#[]⟩) := by rw [b2.cell (p := ⟨w.heap.size, 0, none⟩) K0.out.2.2.2.2]; exact K0.out.2.1
  have r1 : w2.cell? ⟨w.heap.size, 1, none⟩ = some (.string ⟨#[]⟩) := by rw [b2.cell (p := ⟨w.heap.size, 1, none⟩) K0.out.2.2.2.2]; exact K0.out.2.2.1
  have f0 : w2.frozen? ⟨w.heap.size, 0, none⟩ = false := by rw [b2.frozen (p := ⟨w.heap.size, 0, none⟩) K0.out.2.2.2.2]; exact K0.out.2.2.2.1 0
  have f1 : w2.frozen? ⟨w.heap.size, 1, none⟩ = false := by rw [b2.frozen (p := ⟨w.heap.size, 1, none⟩) K0.out.2.2.2.2]; exact K0.out.2.2.2.1 1
  have HB : Hid (Below w.heap.size w w2) := K0.out.1.trans (b2.mono K0.out.1.size)
  clear hb1 hb2 b2 K0 HW C1 C2
  go_wp2_with fail
  exact bodyPost_ret (v := .agg #[.string n, .string z]) (by simp [results, Tryz.results188, go_sem, r0, r1]) rfl ⟨rfl, (HB.out.setCell (Nat.le_refl _) _).setCell (Nat.le_refl _) _⟩
set_option maxRecDepth 100000 in
set_option maxHeartbeats 4000000 in
theorem bClone_any (w : World) (a : Option Addr) (cap : Nat) (l : List UInt8) (hl : l.length ≤ 1048576) (hi : BIn w a l) :
    Calls Tryz.prog 142 #[.slice a l.length cap] w fun e w' => (∃ v, e = .returned v ∧ RowB w' w.heap.size v l) ∧ Below w.heap.size w w' := by
  cases a with
  | none =>
    have e : l = [] := by
      rcases hi with h | ⟨b, off, h, _⟩
      · exact h
      · cases h
    subst e
    clear hi
    have hnil := fun w => Lib.run_eql_slice_nil (P := Tryz.prog) w 27 5 none 0 cap 0 0 Tryz.underlying27
    simp only [Option.isNone_none] at hnil
    go_enter Tryz.func142, Tryz.ntmps142
    go_wp2_with fail
    go_ret
    exact ⟨⟨_, rfl, World.ownsRow_nil _ _ _ _⟩, Below.refl _ _⟩
  | some p =>
    obtain ⟨i0, hi0, hz0, hz1, hz2⟩ := info_parts cByteI
    have B1 : Hid (Below w.heap.size w (w.alloc (.cells #[] 5))) := (Below.refl _ _).alloc (Nat.le_refl _) _
    have O1 : Hid ((w.alloc (.cells #[] 5)).ownsRow w.heap.size 5 1 (.slice (some ⟨w.heap.size, 0, none⟩) 0 0) 0 []) := World.ownsRow_made w #[] 0 (Nat.le_refl _) (by unfold maxLen; omega) rfl
    have HIN : Hid (l.length = 0 ∨ ∃ ad, some p = some ad ∧ ∀ j u, (cBytes l)[j]? = some u → (w.alloc (.cells #[] 5)).cell? (ad.add j) = some u) := cBytes_in (hi.keep B1.out)
    have HLN : Hid ((cBytes l).length = l.length * 1) := by show _ = _; unfold cBytes; simp
    have HRW : Hid (∀ X v, X.ownsRow w.heap.size 5 1 v (0 + l.length) ([] ++ cBytes l) → RowB X w.heap.size v l) := fun X v h => by rw [Nat.zero_add, List.nil_append] at h; exact h
    clear hi
    generalize hn : l.length = n at *
    clear hn
    have hnil := fun w => Lib.run_eql_slice_nil (P := Tryz.prog) w 27 5 (some p) n cap 0 0 Tryz.underlying27
    simp only [Option.isNone_some] at hnil
    go_enter Tryz.func142, Tryz.ntmps142
    go_wp2_with (at_builtin; refine wpList_plain rfl fun _ hK => wp_append_in _ (.tmp 5) (.tmp 6) 27 5 rfl i0 _ 1 1 Tryz.underlying27 hi0 hz0 hz1 hz2 rfl (by omega) w.heap.size _ 0 [] rfl O1.out (some p) cap n (cBytes l) rfl HLN.out HIN.out (cOneB l) (by unfold maxLen; omega) (by omega) B1.out.size (fun v' w' h1 h2 _ => hK _ _ ?_))
    go_ret
    exact ⟨⟨_, rfl, HRW.out _ _ h1⟩, B1.out.trans h2⟩
end Go.Proofs.YtmidfgjnaebfiaaGreatDoor
/-
  Head lines that are copied, by the program.
-/
namespace Go.Proofs.YtmidfgjnaebfiaaGreatDoor
open Go.ChangeShapes Go.WideShapes Go.ChangeAt Go.RowKit Go.Sort
set_option maxRecDepth 100000 in
set_option maxHeartbeats 4000000 in
theorem linesAnew_any (w : World) (a : Option Addr) (cap : Nat) (l : List Hdr) (hl : l.length ≤ 1048576) (hs : ∀ r ∈ l, r.name.size ≤ 1048576 ∧ r.value.size ≤ 1048576) (hi : HdsIn w a l) :
    Calls Tryz.prog 141 #[.slice a l.length cap] w fun e w' => (∃ v, e = .returned v ∧ RowH w' w.heap.size v l) ∧ Below w.heap.size w w' := by
  have HI : Hid (HdsIn w a l) := hi
  have HSM : Hid (∀ r ∈ l, r.name.size ≤ 1048576 ∧ r.value.size ≤ 1048576) := hs
  obtain ⟨i0, hi0, hz0, hz1, hz2⟩ := info_parts cHeadI
  clear hi hs
  generalize hn : l.length = n at *
  have HN : Hid (l.length = n) := hn
  clear hn
  go_enter Tryz.func141, Tryz.ntmps141
  go_wp2_with fail
  go_loopw [3, 8] (fun v i wr => ∃ k : Nat, k ≤ n ∧ i = .int .i64 k ∧ wr.ownsRow w.heap.size 174 2 v k (hdrsW (l.take k)) ∧ Below w.heap.size w wr) (fun _ i _ => n - (intOf i).toNat)
  case atStart => exact ⟨0, Nat.zero_le _, rfl, World.ownsRow_nil _ _ _ _, Below.refl _ _⟩
  case round =>
    obtain ⟨k, hk, rfl, hrow, hb⟩ := hrel
    obtain ⟨va, vc, rfl, _⟩ := row_form hrow
    by_cases hlt : k < n
    · obtain ⟨r, hr⟩ : ∃ r, l[k]? = some r := ⟨l[k]'(by have := HN.out; omega), List.getElem?_eq_getElem _⟩
      rcases HI.out with e | ⟨b', off', er, hat⟩
      · rw [e] at hr; simp at hr
      obtain ⟨p0, p1⟩ := (hat.keep hb) k r hr
      have sm := HSM.out r (List.mem_of_getElem? hr)
      rw [er]
      have g : (k : Int) < n := by omega
      have g0 : (0 : Int) ≤ k := by omega
      obtain ⟨W2, hW2⟩ : ∃ W2, W2 = wr.alloc (.cells #[.string r.name, .string r.value] 174) := ⟨_, rfl⟩
      have HW2 : Hid (W2 = wr.alloc (.cells #[.string r.name, .string r.value] 174)) := hW2
      have b2 : Below wr.heap.size wr W2 := by rw [hW2]; exact (Below.refl _ _).alloc (Nat.le_refl _) _
      have R2 : Hid (W2.ownsRow w.heap.size 174 2 (.slice va k vc) k (hdrsW (l.take k)) ∧ Below w.heap.size w W2) := ⟨row_below hrow b2, hb.trans (b2.mono hb.size)⟩
      have HT : Hid (hdrsW (l.take k) ++ [.string r.name, .string r.value] = hdrsW (l.take (k + 1))) := by
        show _ = _
        obtain ⟨hk2, rfl⟩ := List.getElem?_eq_some_iff.1 hr
        rw [List.take_succ_eq_append_getElem hk2]
        unfold hdrsW
        rw [List.flatMap_append, List.flatMap_cons, List.flatMap_nil, List.append_nil]
        rfl
      have CL : Hid (∀ X, Calls Tryz.prog 188 #[.string r.name, .string r.value] X fun e w' => e = .returned (.agg #[.string r.name, .string r.value]) ∧ Below X.heap.size X w') := fun X => lineOf_anew _ _ X sm.1 sm.2
      clear hrow hat hr sm hW2 b2 hb
      go_wp2_with fail
      rw [← HW2.out]
      clear HW2 p0 p1
      refine (CL.out _).mono ?_
      rintro e0 wa ⟨rfl, hba⟩
      have N3 : Hid (1 = 0 ∨ ∃ ad, some (⟨wa.heap.size, 0, none⟩ : Addr) = some ad ∧ ∀ j u, ([Value.string r.name, Value.string r.value])[j]? = some u → (wa.alloc (.cells #[.string r.name, .string r.value] 174)).cell? (ad.add j) = some u) := by
        refine .inr ⟨_, rfl, fun j u hj => ?_⟩
        rw [cadd]
        match j, hj with
        | 0, hj => simp at hj; subst hj; simp
        | 1, hj => simp at hj; subst hj; simp
      have b3 : Below W2.heap.size W2 (wa.alloc (.cells #[.string r.name, .string r.value] 174)) := hba.alloc hba.size _
      have RR3 : Hid ((wa.alloc (.cells #[.string r.name, .string r.value] 174)).ownsRow w.heap.size 174 2 (.slice va k vc) k (hdrsW (l.take k)) ∧ Below w.heap.size w (wa.alloc (.cells #[.string r.name, .string r.value] 174))) := ⟨row_below R2.out.1 b3, R2.out.2.trans (b3.mono R2.out.2.size)⟩
      clear b3 hba R2
      go_wp2_with (at_builtin; refine wpList_plain rfl fun _ hK => wp_append_in _ (.tmp 12) (.tmp 18) 26 174 rfl i0 _ 2 32 Tryz.underlying26 hi0 hz0 hz1 hz2 rfl (by omega) w.heap.size _ k (hdrsW (l.take k)) rfl RR3.out.1 (some ⟨wa.heap.size, 0, none⟩) 1 1 [.string r.name, .string r.value] rfl rfl N3.out (by simp [Value.oneCell']) (by unfold maxLen; omega) (by omega) RR3.out.2.size (fun v' w' h1 h2 _ => hK _ _ ?_))
      have HF : Hid (w'.ownsRow w.heap.size 174 2 v' (k + 1) (hdrsW (l.take (k + 1))) ∧ Below w.heap.size w w') := by
        rw [HT.out] at h1
        exact ⟨h1, RR3.out.2.trans h2⟩
      clear h1 h2 RR3 N3
      go_wp2_with fail
      go_roundw
      case rel => exact ⟨k + 1, by omega, by go_num, HF.out.1, HF.out.2⟩
      case measure => simp [intOf]; omega
    · have HF : Hid (RowH wr w.heap.size (.slice va k vc) l) := by
        have e : l.take k = l := List.take_of_length_le (by have := HN.out; omega)
        have := hrow
        rw [e] at this
        have hkn : k = l.length := by have := HN.out; omega
        subst hkn
        exact this
      clear hrow
      go_wp2_with fail
      go_ret
      exact ⟨⟨_, rfl, HF.out⟩, hb⟩
end Go.Proofs.YtmidfgjnaebfiaaGreatDoor
/-
  A region that draws its order, whose last operation waits for all others: what is held of the world is held behind each operation but that last one.
-/
namespace Go.Proofs.YtmidfgjnaebfiaaGreatDoor
open Go Go.ChangeShapes Go.WideShapes Go.ChangeAt Go.RowKit
section
variable {P : Program} {ops : Array Oper} {Q : Exit → Act → World → Prop} {S : World → Prop} {m : Nat}
/-- Whatever may come up; behind it S is shown, but where it was operation m. -/
def butLast (P : Program) (ops : Array Oper) (Q : Exit → Act → World → Prop) (S : World → Prop) (m : Nat) : Nat → Array Bool → Act → World → Prop
  | 0, done, a, w => Region.ready .any ops done = [] ∧ Q .normal a w
  | n + 1, done, a, w => (Region.ready .any ops done = [] → Q .normal a w) ∧
      ∀ i ∈ Region.ready .any ops done, wpOp P ops Q i (fun a' w' => (i = m ∨ S w') ∧ butLast P ops Q S m n (done.setIfInBounds i true) a' w') a w
theorem butLast_any : ∀ (n : Nat) (done : Array Bool) (a : Act) (w : World), butLast P ops Q S m n done a w → wpAny P .any ops Q n done a w := by
  intro n
  induction n with
  | zero => intro done a w h; exact h
  | succ n ih => intro done a w h; exact ⟨h.1, fun i hi => wpOp_mono (fun a' w' k => ih _ a' w' k.2) (h.2 i hi)⟩
theorem ready_not_done {done : Array Bool} {i : Nat} (h : i ∈ Region.ready .any ops done) (k : done.getD i false = true) : False := by
  have q := (mem_ready.1 h).1
  rcases Nat.lt_or_ge i done.size with z | z
  · simp [z] at q k
    rw [q] at k
    cases k
  · simp [Array.getElem?_eq_none z] at k
/-- While operation i has not come up, one that waits for it cannot. -/
theorem waits_not {done : Array Bool} {i j : Nat} (hi : i ∈ Region.ready .any ops done) (hj : j ∈ Region.ready .any ops done) (hw : Region.waitsFor .any ops j i = true) : False := by
  obtain ⟨oj, hoj, e, he, hb, rfl⟩ := Region.waitsFor_spec hw
  obtain ⟨_, oj', hoj', hall⟩ := mem_ready.1 hj
  rw [hoj] at hoj'
  cases hoj'
  exact ready_not_done hi (hall e he hb)
/-- One that yields in every world that meets S may be taken first, if the last one waits for it. -/
theorem butLast_first {i : Nat} {oi : Oper} {v : Value} (hi : ops[i]? = some oi) (hsel : ∀ (j : Nat) (o : Oper) cs b, ops[j]? = some o → o.op ≠ .select cs b)
    (hw : Region.waitsFor .any ops m i = true) (hQ : ∀ c a w, Q (.panic c) (a.put oi.dst v) w → Q (.panic c) a w) :
    ∀ (n : Nat) (done : Array Bool) (a : Act) (w : World), (∀ j oj, ops[j]? = some oj → j ≠ i → done.getD j true = false → (∀ e ∈ oj.after, Region.binds .any e = true → e.on ≠ i) → oi.apart ops oj = true) →
      i ∈ Region.ready .any ops done → YieldsIf P ops S oi v a → S w → butLast P ops Q S m n (done.setIfInBounds i true) (a.put oi.dst v) w → butLast P ops Q S m (n + 1) done a w := by
  intro n
  induction n with
  | zero =>
    intro done a w _ hr hy hS H
    refine ⟨fun z => (by rw [z] at hr; cases hr), fun j hj => ?_⟩
    by_cases e : j = i
    · rw [e]; exact hy.wpOp hi hS ⟨.inr hS, H⟩
    · have k := ready_mono hj e
      rw [H.1] at k
      cases k
  | succ n ih =>
    intro done a w hap hr hy hS H
    refine ⟨fun z => (by rw [z] at hr; cases hr), fun j hj => ?_⟩
    by_cases e : j = i
    · rw [e]; exact hy.wpOp hi hS ⟨.inr hS, H⟩
    · have hjm : j ≠ m := fun q => waits_not hr hj (by rw [q]; exact hw)
      obtain ⟨hun, oj, hoj, hall⟩ := mem_ready.1 hj
      have hno : ∀ x ∈ oj.after, Region.binds .any x = true → x.on ≠ i := fun x hx hb q => ready_not_done hr (by have := hall x hx hb; rwa [q] at this)
      have step := wpOp_putIf hoj (hap j oj hoj e hun hno) (fun cs b => hsel i oi cs b hi) (fun cs b => hsel j oj cs b hoj) hQ hy (H.2 j (ready_mono hj e))
      refine wpOp_mono (fun a' w' k => ?_) step
      have hS' : S w' := k.2.1.resolve_left hjm
      refine ⟨.inr hS', ih (done.setIfInBounds j true) a' w' (fun c oc hc hci hcu hcn => hap c oc hc hci ?_ hcn) (ready_mono hr (Ne.symm e)) k.1 hS' ?_⟩
      · by_cases q : j = c
        · rw [← q]; exact hun
        · rwa [getD_set_ne true q] at hcu
      · rw [Array.setIfInBounds_comm _ _ e]
        exact k.2.2
theorem butLast_take {i : Nat} {oi : Oper} {v : Value} {n : Nat} {done : Array Bool} {a : Act} {w : World} (hi : ops[i]? = some oi) (hs : Region.noSelect ops = true)
    (hf : Region.free .any ops done i = true) (hr : (Region.ready .any ops done).contains i = true) (hw : Region.waitsFor .any ops m i = true)
    (hQ : ∀ c a w, Q (.panic c) (a.put oi.dst v) w → Q (.panic c) a w) (hy : YieldsIf P ops S oi v a) (hS : S w)
    (h : butLast P ops Q S m n (done.setIfInBounds i true) (a.put oi.dst v) w) : butLast P ops Q S m (n + 1) done a w :=
  butLast_first hi (Region.noSelect_spec hs) hw hQ n done a w (Region.free_spec hi hf) (by simpa using hr) hy hS h
/-- Only one may come up. -/
theorem butLast_one {i n : Nat} {o : Oper} {done : Array Bool} {a : Act} {w : World} (ho : ops[i]? = some o) (hr : Region.ready .any ops done = [i])
    (h : ∀ K : Act → World → Prop, (∀ a' w', (i = m ∨ S w') → butLast P ops Q S m n (done.setIfInBounds i true) a' w' → K a' w') → if Region.wanted o (yielded ops a.tmps) = true then Oper.wp P o a w K Q else K (a.put o.dst undef) w) :
    butLast P ops Q S m (n + 1) done a w := by
  refine ⟨fun z => (by rw [z] at hr; cases hr), fun j hj => ?_⟩
  rw [hr, List.mem_singleton] at hj
  rw [hj]
  exact wpOp_step ho fun K hK => h K fun a' w' h1 h2 => hK a' w' ⟨h1, h2⟩
theorem butLast_end {done : Array Bool} {a : Act} {w : World} {n : Nat} (hr : Region.ready .any ops done = []) (h : Q .normal a w) : butLast P ops Q S m n done a w := by
  cases n with
  | zero => exact ⟨hr, h⟩
  | succ n => exact ⟨fun _ => h, by rw [hr]; simp⟩
theorem wp_region_last (S : World → Prop) (m : Nat) {id : Nat} {a : Act} {w : World} (hm : P.follows .mixedOrders = true) (h : butLast P ops Q S m ops.size (Array.replicate ops.size false) a w.drew) : (Code.region id ops true).wp P Q a w :=
  wp_region_any hm (butLast_any _ _ _ _ h)
end
end Go.Proofs.YtmidfgjnaebfiaaGreatDoor
/-
  An entry that is copied, by the program.
-/
namespace Go.Proofs.YtmidfgjnaebfiaaGreatDoor
open Go.ChangeShapes Go.WideShapes Go.ChangeAt Go.RowKit Go.Sort
/-- While an entry is being copied: the result's room R, the new one A. -/
structure AN (w : World) (h : Hdl) (R A : Nat) (hv bv tv : Value) (W : World) : Prop where
  r : E13 W R (.string ⟨#[]⟩) (.int .i64 0) (.slice none 0 0) (.slice none 0 0) (.int .i64 0) (.int .i64 0) (.int .i64 0) (.int .i64 0) (.int .i64 0) (.bool false) (.bool false) (.slice none 0 0) (.int .i64 0)
  a : E13 W A (.string h.x.key) (.int .i64 h.x.st) hv bv (.int .i64 h.x.t) (.int .i64 h.x.g) (.int .i64 h.x.l) (.int .i64 h.x.s) (.int .i64 h.x.e) (.bool h.x.b1) (.bool h.x.b2) tv (.int .i64 h.x.pins)
  b : RowB W (R + 1) bv h.x.bl
  bA : ∀ q, bv.ownBlock = some q → q ≠ A
  bl : Below w.heap.size w W
  ra : R < A
  rw : w.heap.size = R
theorem AN.below {w W W' : World} {h : Hdl} {R A : Nat} {hv bv tv : Value} (k : AN w h R A hv bv tv W) (hb : Below W.heap.size W W') : AN w h R A hv bv tv W' := ⟨k.r.keep hb, k.a.keep hb, row_below k.b hb, k.bA, k.bl.trans (hb.mono k.bl.size), k.ra, k.rw⟩
theorem row_ne {w : World} {base : Nat} {e : TypeId} {size : Nat} {v : Value} {n : Nat} {xs : List Value} (h : w.ownsRow base e size v n xs) {A i : Nat} (u : Value) (hA : ∀ q, v.ownBlock = some q → q ≠ A) : (w.setCell ⟨A, i, none⟩ u).ownsRow base e size v n xs := by
  obtain ⟨h1, h2⟩ := h
  refine ⟨h1, ?_⟩
  rcases h2 with h2 | ⟨g, c, cur, e', hg, hh, hrest⟩
  · exact .inl h2
  · exact .inr ⟨g, c, cur, e', hg, by rw [heap_setCell_other w ⟨A, i, none⟩ g u (by have := hA g (by rw [e']; rfl); exact this)]; exact hh, hrest⟩
theorem AN.set2 {w W : World} {h : Hdl} {R A : Nat} {hv bv tv : Value} (k : AN w h R A hv bv tv W) (u : Value) : AN w h R A u bv tv (W.setCell ⟨A, 2, none⟩ u) := ⟨k.r.off (by have := k.ra; omega), k.a.set2 u, row_ne k.b u k.bA, k.bA, k.bl.setCell (by have := k.ra; have := k.rw; simp only; omega) u, k.ra, k.rw⟩
theorem AN.set11 {w W : World} {h : Hdl} {R A : Nat} {hv bv tv : Value} (k : AN w h R A hv bv tv W) (u : Value) : AN w h R A hv bv u (W.setCell ⟨A, 11, none⟩ u) := ⟨k.r.off (by have := k.ra; omega), k.a.set11 u, row_ne k.b u k.bA, k.bA, k.bl.setCell (by have := k.ra; have := k.rw; simp only; omega) u, k.ra, k.rw⟩
theorem an_of {w X wb : World} {h : Hdl} {R A : Nat} {bv : Value} (hR : w.heap.size = R) (kb : Below w.heap.size w X) (k1 : E13 X R (.string ⟨#[]⟩) (.int .i64 0) (.slice none 0 0) (.slice none 0 0) (.int .i64 0) (.int .i64 0) (.int .i64 0) (.int .i64 0) (.int .i64 0) (.bool false) (.bool false) (.slice none 0 0) (.int .i64 0)) (k2 : E13 X A (.string ⟨#[]⟩) (.int .i64 0) (.slice none 0 0) (.slice none 0 0) (.int .i64 0) (.int .i64 0) (.int .i64 0) (.int .i64 0) (.int .i64 0) (.bool false) (.bool false) (.slice none 0 0) (.int .i64 0)) (hsz : R + 1 ≤ X.heap.size) (hRA : R < A) (rb : RowB wb X.heap.size bv h.x.bl) (hbb : Below X.heap.size X wb) : AN w h R A (.slice none 0 0) bv (.slice none 0 0) (((((((((((((wb.setCell ⟨A, 0, none⟩ (.string h.x.key)).setCell ⟨A, 1, none⟩ (.int .i64 h.x.st)).setCell ⟨A, 2, none⟩ (.slice none 0 0)).setCell ⟨A, 3, none⟩ bv).setCell ⟨A, 4, none⟩ (.int .i64 h.x.t)).setCell ⟨A, 5, none⟩ (.int .i64 h.x.g)).setCell ⟨A, 6, none⟩ (.int .i64 h.x.l)).setCell ⟨A, 7, none⟩ (.int .i64 h.x.s)).setCell ⟨A, 8, none⟩ (.int .i64 h.x.e)).setCell ⟨A, 9, none⟩ (.bool h.x.b1)).setCell ⟨A, 10, none⟩ (.bool h.x.b2)).setCell ⟨A, 11, none⟩ (.slice none 0 0)).setCell ⟨A, 12, none⟩ (.int .i64 h.x.pins)) := by
  have hne : ∀ q, bv.ownBlock = some q → q ≠ A := fun q hq => by
    have := (World.ownsRow.lt rb q hq).1
    have := k2.lt
    omega
  have bb := kb.trans (hbb.mono kb.size)
  have hlo : w.heap.size ≤ A := by omega
  exact ⟨((((((((((((((k1.keep hbb).off (by omega)).off (by omega)).off (by omega)).off (by omega)).off (by omega)).off (by omega)).off (by omega)).off (by omega)).off (by omega)).off (by omega)).off (by omega)).off (by omega)).off (by omega)), (k2.keep hbb).all _ _ _ _ _ _ _ _ _ _ _ _ _, row_lower (row_ne (row_ne (row_ne (row_ne (row_ne (row_ne (row_ne (row_ne (row_ne (row_ne (row_ne (row_ne (row_ne rb _ hne) _ hne) _ hne) _ hne) _ hne) _ hne) _ hne) _ hne) _ hne) _ hne) _ hne) _ hne) _ hne) hsz, hne, (((((((((((((bb.setCell hlo _).setCell hlo _).setCell hlo _).setCell hlo _).setCell hlo _).setCell hlo _).setCell hlo _).setCell hlo _).setCell hlo _).setCell hlo _).setCell hlo _).setCell hlo _).setCell hlo _), hRA, hR⟩
theorem an_new {w wb : World} {h : Hdl} {R : Nat} {bv : Value} (hR : w.heap.size = R) (kb : Below w.heap.size w wb) (k1 : E13 wb R (.string ⟨#[]⟩) (.int .i64 0) (.slice none 0 0) (.slice none 0 0) (.int .i64 0) (.int .i64 0) (.int .i64 0) (.int .i64 0) (.int .i64 0) (.bool false) (.bool false) (.slice none 0 0) (.int .i64 0)) (hsz : R + 1 ≤ wb.heap.size) (rb : RowB wb (R + 1) bv h.x.bl) : AN w h R wb.heap.size (.slice none 0 0) bv (.slice none 0 0) (wb.alloc (.cells #[.string h.x.key, .int .i64 h.x.st, .slice none 0 0, bv, .int .i64 h.x.t, .int .i64 h.x.g, .int .i64 h.x.l, .int .i64 h.x.s, .int .i64 h.x.e, .bool h.x.b1, .bool h.x.b2, .slice none 0 0, .int .i64 h.x.pins] 32)) := by
  have a : Below wb.heap.size wb (wb.alloc (.cells #[.string h.x.key, .int .i64 h.x.st, .slice none 0 0, bv, .int .i64 h.x.t, .int .i64 h.x.g, .int .i64 h.x.l, .int .i64 h.x.s, .int .i64 h.x.e, .bool h.x.b1, .bool h.x.b2, .slice none 0 0, .int .i64 h.x.pins] 32)) := (Below.refl _ _).alloc (Nat.le_refl _) _
  exact ⟨k1.keep a, E13.new wb _ _ _ _ _ _ _ _ _ _ _ _ _ _, row_below rb a, fun q hq => by have := (World.ownsRow.lt rb q hq).2; omega, kb.trans (a.mono kb.size), by omega, hR⟩
theorem an_grow {w X X' : World} {h : Hdl} {R A m : Nat} {hv bv tv : Value} (k : AN w h R A hv bv tv X) (hb : Below m X X') (hA : A < m) (hB : ∀ q, bv.ownBlock = some q → q < m) : AN w h R A hv bv tv X' := by
  have hR : R < m := Nat.lt_trans k.ra hA
  have hw : w.heap.size ≤ m := by have := k.rw; omega
  refine ⟨⟨?_, ?_, ?_, ?_, ?_, ?_, ?_, ?_, ?_, ?_, ?_, ?_, ?_, fun o => ?_, Nat.lt_of_lt_of_le k.r.lt hb.size⟩, ⟨?_, ?_, ?_, ?_, ?_, ?_, ?_, ?_, ?_, ?_, ?_, ?_, ?_, fun o => ?_, Nat.lt_of_lt_of_le k.a.lt hb.size⟩, ?_, k.bA, k.bl.trans (hb.mono hw), k.ra, k.rw⟩
  · rw [hb.cell (p := ⟨R, 0, none⟩) hR]; exact k.r.c0
  · rw [hb.cell (p := ⟨R, 1, none⟩) hR]; exact k.r.c1
  · rw [hb.cell (p := ⟨R, 2, none⟩) hR]; exact k.r.c2
  · rw [hb.cell (p := ⟨R, 3, none⟩) hR]; exact k.r.c3
  · rw [hb.cell (p := ⟨R, 4, none⟩) hR]; exact k.r.c4
  · rw [hb.cell (p := ⟨R, 5, none⟩) hR]; exact k.r.c5
  · rw [hb.cell (p := ⟨R, 6, none⟩) hR]; exact k.r.c6
  · rw [hb.cell (p := ⟨R, 7, none⟩) hR]; exact k.r.c7
  · rw [hb.cell (p := ⟨R, 8, none⟩) hR]; exact k.r.c8
  · rw [hb.cell (p := ⟨R, 9, none⟩) hR]; exact k.r.c9
  · rw [hb.cell (p := ⟨R, 10, none⟩) hR]; exact k.r.c10
  · rw [hb.cell (p := ⟨R, 11, none⟩) hR]; exact k.r.c11
  · rw [hb.cell (p := ⟨R, 12, none⟩) hR]; exact k.r.c12
  · rw [hb.frozen (p := ⟨R, o, none⟩) hR]; exact k.r.fr o
  · rw [hb.cell (p := ⟨A, 0, none⟩) hA]; exact k.a.c0
  · rw [hb.cell (p := ⟨A, 1, none⟩) hA]; exact k.a.c1
  · rw [hb.cell (p := ⟨A, 2, none⟩) hA]; exact k.a.c2
  · rw [hb.cell (p := ⟨A, 3, none⟩) hA]; exact k.a.c3
  · rw [hb.cell (p := ⟨A, 4, none⟩) hA]; exact k.a.c4
  · rw [hb.cell (p := ⟨A, 5, none⟩) hA]; exact k.a.c5
  · rw [hb.cell (p := ⟨A, 6, none⟩) hA]; exact k.a.c6
  · rw [hb.cell (p := ⟨A, 7, none⟩) hA]; exact k.a.c7
  · rw [hb.cell (p := ⟨A, 8, none⟩) hA]; exact k.a.c8
  · rw [hb.cell (p := ⟨A, 9, none⟩) hA]; exact k.a.c9
  · rw [hb.cell (p := ⟨A, 10, none⟩) hA]; exact k.a.c10
  · rw [hb.cell (p := ⟨A, 11, none⟩) hA]; exact k.a.c11
  · rw [hb.cell (p := ⟨A, 12, none⟩) hA]; exact k.a.c12
  · rw [hb.frozen (p := ⟨A, o, none⟩) hA]; exact k.a.fr o
  · obtain ⟨h1, h2⟩ := k.b
    refine ⟨h1, ?_⟩
    rcases h2 with h2 | ⟨g, c, cur, e, hg, hh, hrest⟩
    · exact .inl h2
    · exact .inr ⟨g, c, cur, e, hg, by rw [hb.block g (hB g (by rw [e]; rfl))]; exact hh, hrest⟩
theorem row_keep {w w' : World} {m base : Nat} {e : TypeId} {size : Nat} {v : Value} {n : Nat} {xs : List Value} (h : w.ownsRow base e size v n xs) (hb : Below m w w') (hm : ∀ q, v.ownBlock = some q → q < m) : w'.ownsRow base e size v n xs := by
  obtain ⟨h1, h2⟩ := h
  refine ⟨h1, ?_⟩
  rcases h2 with h2 | ⟨g, c, cur, e', hg, hh, hrest⟩
  · exact .inl h2
  · exact .inr ⟨g, c, cur, e', hg, by rw [hb.block g (hm g (by rw [e']; rfl))]; exact hh, hrest⟩
theorem ne_blk {a b : Option Addr} {n c n' c' m : Nat} (h1 : ∀ q, Value.ownBlock (.slice a n c) = some q → m ≤ q) (h2 : ∀ q, Value.ownBlock (.slice b n' c') = some q → q < m) : a = none ∨ a ≠ b := by
  cases a with
  | none => exact .inl rfl
  | some p =>
    refine .inr fun e => ?_
    subst e
    have := h1 p.block rfl
    have := h2 p.block rfl
    omega
theorem ne_blk2 {a b : Option Addr} {n c n' c' m : Nat} (h1 : ∀ q, Value.ownBlock (.slice a n c) = some q → q < m) (h2 : ∀ q, Value.ownBlock (.slice b n' c') = some q → m ≤ q) : a = none ∨ a ≠ b := by
  cases a with
  | none => exact .inl rfl
  | some p =>
    refine .inr fun e => ?_
    subst e
    have := h1 p.block rfl
    have := h2 p.block rfl
    omega
theorem heads_small {x : Ent} (hz : entC x = 0) : ∀ r ∈ x.hs, r.name.size ≤ 1048576 ∧ r.value.size ≤ 1048576 := fun r hr => by
  obtain ⟨_, _, _, z4, _, _, _⟩ := entryC_zero hz
  obtain ⟨_, hfl⟩ := headsC_zero z4
  obtain ⟨i, hi⟩ := List.mem_iff_getElem?.1 hr
  obtain ⟨x1, x2, _⟩ := faultH_zero (hfl i r hi)
  exact ⟨Nat.le_trans (hword_max x1) (by omega), by omega⟩
/-- While an entry is being copied, ahead of the new one's box. -/
structure AB (w X : World) : Prop where
  bl : Below w.heap.size w X
  r : E13 X w.heap.size (.string ⟨#[]⟩) (.int .i64 0) (.slice none 0 0) (.slice none 0 0) (.int .i64 0) (.int .i64 0) (.int .i64 0) (.int .i64 0) (.int .i64 0) (.bool false) (.bool false) (.slice none 0 0) (.int .i64 0)
  lt : w.heap.size < X.heap.size
/-- Behind it. -/
structure AC (w X : World) (A : Nat) : Prop where
  bl : Below w.heap.size w X
  r : E13 X w.heap.size (.string ⟨#[]⟩) (.int .i64 0) (.slice none 0 0) (.slice none 0 0) (.int .i64 0) (.int .i64 0) (.int .i64 0) (.int .i64 0) (.int .i64 0) (.bool false) (.bool false) (.slice none 0 0) (.int .i64 0)
  a : E13 X A (.string ⟨#[]⟩) (.int .i64 0) (.slice none 0 0) (.slice none 0 0) (.int .i64 0) (.int .i64 0) (.int .i64 0) (.int .i64 0) (.int .i64 0) (.bool false) (.bool false) (.slice none 0 0) (.int .i64 0)
  ra : w.heap.size < A
theorem AB.keep {w X X' : World} (k : AB w X) (hb : Below X.heap.size X X') : AB w X' := ⟨k.bl.trans (hb.mono k.bl.size), k.r.keep hb, Nat.lt_of_lt_of_le k.lt hb.size⟩
theorem AC.keep {w X X' : World} {A : Nat} (k : AC w X A) (hb : Below X.heap.size X X') : AC w X' A := ⟨k.bl.trans (hb.mono k.bl.size), k.r.keep hb, k.a.keep hb, k.ra⟩
theorem AB.new {w X : World} (k : AB w X) : AC w (X.alloc (.cells #[.string ⟨#[]⟩, .int .i64 0, .slice none 0 0, .slice none 0 0, .int .i64 0, .int .i64 0, .int .i64 0, .int .i64 0, .int .i64 0, .bool false, .bool false, .slice none 0 0, .int .i64 0] 32)) X.heap.size :=
  have b : Below X.heap.size X (X.alloc (.cells #[.string ⟨#[]⟩, .int .i64 0, .slice none 0 0, .slice none 0 0, .int .i64 0, .int .i64 0, .int .i64 0, .int .i64 0, .int .i64 0, .bool false, .bool false, .slice none 0 0, .int .i64 0] 32)) := (Below.refl _ _).alloc (Nat.le_refl _) _
  ⟨k.bl.trans (b.mono k.bl.size), k.r.keep b, E13.new X _ _ _ _ _ _ _ _ _ _ _ _ _ _, k.lt⟩
/-- What is known behind the region: the new one's box, and its two rows. -/
structure AR (w : World) (h : Hdl) (A : Nat) (hv bv : Value) (X : World) : Prop where
  n : AN w h w.heap.size A hv bv (.slice none 0 0) X
  h : RowH X (w.heap.size + 1) hv h.x.hs
  hA : ∀ q, hv.ownBlock = some q → q ≠ A
  hb : ∀ q, hv.ownBlock = some q → ∀ q', bv.ownBlock = some q' → q ≠ q'
theorem ar_of {w X wc : World} {h : Hdl} {A : Nat} {hv bv : Value} (k : AC w X A) (rh : RowH X (w.heap.size + 1) hv h.x.hs) (hA : ∀ q, hv.ownBlock = some q → q ≠ A) (rb : RowB wc X.heap.size bv h.x.bl) (hbb : Below X.heap.size X wc) :
    AR w h A hv bv (((((((((((((wc.setCell ⟨A, 0, none⟩ (.string h.x.key)).setCell ⟨A, 1, none⟩ (.int .i64 h.x.st)).setCell ⟨A, 2, none⟩ hv).setCell ⟨A, 3, none⟩ bv).setCell ⟨A, 4, none⟩ (.int .i64 h.x.t)).setCell ⟨A, 5, none⟩ (.int .i64 h.x.g)).setCell ⟨A, 6, none⟩ (.int .i64 h.x.l)).setCell ⟨A, 7, none⟩ (.int .i64 h.x.s)).setCell ⟨A, 8, none⟩ (.int .i64 h.x.e)).setCell ⟨A, 9, none⟩ (.bool h.x.b1)).setCell ⟨A, 10, none⟩ (.bool h.x.b2)).setCell ⟨A, 11, none⟩ (.slice none 0 0)).setCell ⟨A, 12, none⟩ (.int .i64 h.x.pins)) := by
  have hne : ∀ q, bv.ownBlock = some q → q ≠ A := fun q hq => by
    have := (World.ownsRow.lt rb q hq).1
    have := k.a.lt
    omega
  have hlo : w.heap.size ≤ A := Nat.le_of_lt k.ra
  have hR : A ≠ w.heap.size := by have := k.ra; omega
  have bb := k.bl.trans (hbb.mono k.bl.size)
  refine ⟨⟨((((((((((((((k.r.keep hbb).off hR).off hR).off hR).off hR).off hR).off hR).off hR).off hR).off hR).off hR).off hR).off hR).off hR), (k.a.keep hbb).all _ _ _ _ _ _ _ _ _ _ _ _ _, row_lower (row_ne (row_ne (row_ne (row_ne (row_ne (row_ne (row_ne (row_ne (row_ne (row_ne (row_ne (row_ne (row_ne rb _ hne) _ hne) _ hne) _ hne) _ hne) _ hne) _ hne) _ hne) _ hne) _ hne) _ hne) _ hne) _ hne) (by have := k.bl.size; have := k.a.lt; have := k.ra; omega), hne, (((((((((((((bb.setCell hlo _).setCell hlo _).setCell hlo _).setCell hlo _).setCell hlo _).setCell hlo _).setCell hlo _).setCell hlo _).setCell hlo _).setCell hlo _).setCell hlo _).setCell hlo _).setCell hlo _), k.ra, rfl⟩, ?_, hA, fun q hq q' hq' => by have := (World.ownsRow.lt rh q hq).2; have := (World.ownsRow.lt rb q' hq').1; omega⟩
  · exact row_ne (row_ne (row_ne (row_ne (row_ne (row_ne (row_ne (row_ne (row_ne (row_ne (row_ne (row_ne (row_ne (row_below rh hbb) _ hA) _ hA) _ hA) _ hA) _ hA) _ hA) _ hA) _ hA) _ hA) _ hA) _ hA) _ hA) _ hA
theorem ar_new {w X wc : World} {h : Hdl} {hv bv : Value} (k : AB w X) (rh : RowH X (w.heap.size + 1) hv h.x.hs) (rb : RowB wc X.heap.size bv h.x.bl) (hbb : Below X.heap.size X wc) :
    AR w h wc.heap.size hv bv (wc.alloc (.cells #[.string h.x.key, .int .i64 h.x.st, hv, bv, .int .i64 h.x.t, .int .i64 h.x.g, .int .i64 h.x.l, .int .i64 h.x.s, .int .i64 h.x.e, .bool h.x.b1, .bool h.x.b2, .slice none 0 0, .int .i64 h.x.pins] 32)) := by
  have k' := k.keep hbb
  have a : Below wc.heap.size wc (wc.alloc (.cells #[.string h.x.key, .int .i64 h.x.st, hv, bv, .int .i64 h.x.t, .int .i64 h.x.g, .int .i64 h.x.l, .int .i64 h.x.s, .int .i64 h.x.e, .bool h.x.b1, .bool h.x.b2, .slice none 0 0, .int .i64 h.x.pins] 32)) := (Below.refl _ _).alloc (Nat.le_refl _) _
  have rh' := row_below rh hbb
  exact ⟨⟨k'.r.keep a, E13.new wc _ _ _ _ _ _ _ _ _ _ _ _ _ _, row_lower (row_below rb a) (by have := k.lt; omega), fun q hq => by have := (World.ownsRow.lt rb q hq).2; omega, k'.bl.trans (a.mono k'.bl.size), k'.lt, rfl⟩, row_below rh' a, fun q hq => by have := (World.ownsRow.lt rh' q hq).2; omega, fun q hq q' hq' => by have := (World.ownsRow.lt rh q hq).2; have := (World.ownsRow.lt rb q' hq').1; omega⟩
theorem ne_of_blk {a b : Option Addr} {n c n' c' : Nat} (h : ∀ q, Value.ownBlock (.slice a n c) = some q → ∀ q', Value.ownBlock (.slice b n' c') = some q' → q ≠ q') : a = none ∨ a ≠ b := by
  cases a with
  | none => exact .inl rfl
  | some p => exact .inr fun e => by subst e; exact h p.block rfl p.block rfl rfl
set_option linter.unusedSimpArgs false in
set_option maxRecDepth 100000 in
set_option maxHeartbeats 64000000 in
theorem anew_at (w : World) (h : Hdl) (hz : entC h.x = 0) (hts : ∀ t ∈ h.x.ts, t.size ≤ 1048576) (ht : HThere w h) :
    Calls Tryz.prog 71 #[.pointer (some ⟨h.b, h.o, none⟩)] w fun e w' => (∃ r, e = .returned (entV h.x r) ∧ EntRow w' w.heap.size h.x r) ∧ Below w.heap.size w w' := by
  obtain ⟨z1, _, _, z4, z5, z6, _⟩ := entryC_zero hz
  obtain ⟨z20, _⟩ := headsC_zero z4
  have HSM : Hid (∀ r ∈ h.x.hs, r.name.size ≤ 1048576 ∧ r.value.size ≤ 1048576) := heads_small hz
  have HTS : Hid (∀ t ∈ h.x.ts, t.size ≤ 1048576) := hts
  have HS : Hid (∀ X, Below w.heap.size w X → HThere X h) := fun X hX => ht.keep hX
  have CK : Hid (∀ X, Calls Tryz.prog 140 #[.string h.x.key] X fun e w' => e = .returned (.string h.x.key) ∧ Below X.heap.size X w') := fun X => clone_text _ X (by omega)
  have CB : Hid (∀ X, Below w.heap.size w X → Calls Tryz.prog 142 #[.slice h.r.ba h.x.bl.length h.r.bc] X fun e w' => (∃ v, e = .returned v ∧ RowB w' X.heap.size v h.x.bl) ∧ Below X.heap.size X w') := fun X hX => bClone_any X _ _ _ (by omega) (ht.keep hX).2.b
  obtain ⟨W, hW⟩ : ∃ W, W = w.alloc (.cells #[.string ⟨#[]⟩, .int .i64 0, .slice none 0 0, .slice none 0 0, .int .i64 0, .int .i64 0, .int .i64 0, .int .i64 0, .int .i64 0, .bool false, .bool false, .slice none 0 0, .int .i64 0] 32) := ⟨_, rfl⟩
  have HW : Hid (W = w.alloc (.cells #[.string ⟨#[]⟩, .int .i64 0, .slice none 0 0, .slice none 0 0, .int .i64 0, .int .i64 0, .int .i64 0, .int .i64 0, .int .i64 0, .bool false, .bool false, .slice none 0 0, .int .i64 0] 32)) := hW
  have CH : Hid (∀ X, Below w.heap.size w X → Calls Tryz.prog 141 #[.slice h.r.ha h.x.hs.length h.r.hc] X fun e w' => (∃ v, e = .returned v ∧ RowH w' X.heap.size v h.x.hs) ∧ Below X.heap.size X w') := fun X hX => linesAnew_any X _ _ _ (by omega) (heads_small hz) (ht.keep hX).2.h
  have K0 : Hid (Below w.heap.size w W ∧ E13 W w.heap.size (.string ⟨#[]⟩) (.int .i64 0) (.slice none 0 0) (.slice none 0 0) (.int .i64 0) (.int .i64 0) (.int .i64 0) (.int .i64 0) (.int .i64 0) (.bool false) (.bool false) (.slice none 0 0) (.int .i64 0) ∧ W.heap.size = w.heap.size + 1) := by
    rw [hW]; exact ⟨(Below.refl _ _).alloc (Nat.le_refl _) _, E13.new w _ _ _ _ _ _ _ _ _ _ _ _ _ _, by simp⟩
  have HKS : Hid (∀ X, Below w.heap.size w X → X.cell? ⟨h.b, h.o, none⟩ = some (.string h.x.key) ∧ X.cell? ⟨h.b, h.o + 1, none⟩ = some (.int .i64 h.x.st) ∧ X.cell? ⟨h.b, h.o + 2, none⟩ = some (.slice h.r.ha h.x.hs.length h.r.hc) ∧ X.cell? ⟨h.b, h.o + 3, none⟩ = some (.slice h.r.ba h.x.bl.length h.r.bc) ∧ X.cell? ⟨h.b, h.o + 4, none⟩ = some (.int .i64 h.x.t) ∧ X.cell? ⟨h.b, h.o + 5, none⟩ = some (.int .i64 h.x.g) ∧ X.cell? ⟨h.b, h.o + 6, none⟩ = some (.int .i64 h.x.l) ∧ X.cell? ⟨h.b, h.o + 7, none⟩ = some (.int .i64 h.x.s) ∧ X.cell? ⟨h.b, h.o + 8, none⟩ = some (.int .i64 h.x.e) ∧ X.cell? ⟨h.b, h.o + 9, none⟩ = some (.bool h.x.b1) ∧ X.cell? ⟨h.b, h.o + 10, none⟩ = some (.bool h.x.b2) ∧ X.cell? ⟨h.b, h.o + 12, none⟩ = some (.int .i64 h.x.pins)) := fun X hX => by
    have c := (HS.out X hX).cells
    exact ⟨c.1, c.2.1, c.2.2.1, c.2.2.2.1, c.2.2.2.2.1, c.2.2.2.2.2.1, c.2.2.2.2.2.2.1, c.2.2.2.2.2.2.2.1, c.2.2.2.2.2.2.2.2.1, c.2.2.2.2.2.2.2.2.2.1, c.2.2.2.2.2.2.2.2.2.2.1, c.2.2.2.2.2.2.2.2.2.2.2.2⟩
  have X0 : Hid (AB w W.drew) := AB.keep ⟨K0.out.1, K0.out.2.1, by rw [K0.out.2.2]; omega⟩ ((Below.refl _ _).drew)
  have X1 : Hid (AC w (W.alloc (.cells #[.string ⟨#[]⟩, .int .i64 0, .slice none 0 0, .slice none 0 0, .int .i64 0, .int .i64 0, .int .i64 0, .int .i64 0, .int .i64 0, .bool false, .bool false, .slice none 0 0, .int .i64 0] 32)).drew W.heap.size) := (AB.new ⟨K0.out.1, K0.out.2.1, by rw [K0.out.2.2]; omega⟩).keep ((Below.refl _ _).drew)
  have HAL : Hid (∀ X cs, Below w.heap.size w X → Below w.heap.size w (X.alloc (.cells cs 32))) := fun X cs hX => hX.alloc hX.size _
  have HB1 : Hid (Below w.heap.size w (W.alloc (.cells #[.string ⟨#[]⟩, .int .i64 0, .slice none 0 0, .slice none 0 0, .int .i64 0, .int .i64 0, .int .i64 0, .int .i64 0, .int .i64 0, .bool false, .bool false, .slice none 0 0, .int .i64 0] 32))) := HAL.out _ _ K0.out.1
  clear hW ht hts K0
  go_enter Tryz.func71, Tryz.ntmps71
  go_upto_region 1 with fail
  rw [← HW.out]
  clear HW
  go_cut [3] from 6 to 33 (fun s3 wx => ∃ A va vc b2 k2, s3 = .pointer (some ⟨A, 0, none⟩) ∧ AR w h A (.slice va h.x.hs.length vc) (.slice b2 h.x.bl.length k2) wx)
  case first =>
    go_region_held3 (fun X => X.cell? ⟨h.b, h.o, none⟩ = some (.string h.x.key) ∧ X.cell? ⟨h.b, h.o + 1, none⟩ = some (.int .i64 h.x.st) ∧ X.cell? ⟨h.b, h.o + 2, none⟩ = some (.slice h.r.ha h.x.hs.length h.r.hc) ∧ X.cell? ⟨h.b, h.o + 3, none⟩ = some (.slice h.r.ba h.x.bl.length h.r.bc) ∧ X.cell? ⟨h.b, h.o + 4, none⟩ = some (.int .i64 h.x.t) ∧ X.cell? ⟨h.b, h.o + 5, none⟩ = some (.int .i64 h.x.g) ∧ X.cell? ⟨h.b, h.o + 6, none⟩ = some (.int .i64 h.x.l) ∧ X.cell? ⟨h.b, h.o + 7, none⟩ = some (.int .i64 h.x.s) ∧ X.cell? ⟨h.b, h.o + 8, none⟩ = some (.int .i64 h.x.e) ∧ X.cell? ⟨h.b, h.o + 9, none⟩ = some (.bool h.x.b1) ∧ X.cell? ⟨h.b, h.o + 10, none⟩ = some (.bool h.x.b2) ∧ X.cell? ⟨h.b, h.o + 12, none⟩ = some (.int .i64 h.x.pins))
      (first | ((with_reducible refine HKS.out _ ?_); (with_reducible exact ZB.out.n.bl)) | ((with_reducible refine HKS.out _ ?_); (with_reducible exact BC.out)) | ((with_reducible refine HKS.out _ ?_); (with_reducible exact YB.out.1.bl)) | ((with_reducible refine HKS.out _ ?_); (with_reducible exact XB.out.1.bl)) | ((with_reducible refine HKS.out _ ?_); (with_reducible exact YA.out.bl)) | ((with_reducible refine HKS.out _ ?_); (with_reducible exact XA.out.bl)) | ((with_reducible refine HKS.out _ ?_); (with_reducible exact X1.out.bl)) | ((with_reducible refine HKS.out _ ?_); (with_reducible exact X0.out.bl)) | ((with_reducible refine HKS.out _ ?_); (with_reducible exact HAL.out _ _ BC.out)) | ((with_reducible refine HKS.out _ ?_); (with_reducible exact HAL.out _ _ XB.out.1.bl)) | ((with_reducible refine HKS.out _ ?_); (with_reducible exact HAL.out _ _ XA.out.bl)) | ((with_reducible refine HKS.out _ ?_); (with_reducible exact HB1.out)))
      (first
      | (go_at_call 140; (with_reducible refine (CK.out (W.alloc (.cells #[.string ⟨#[]⟩, .int .i64 0, .slice none 0 0, .slice none 0 0, .int .i64 0, .int .i64 0, .int .i64 0, .int .i64 0, .int .i64 0, .bool false, .bool false, .slice none 0 0, .int .i64 0] 32)).drew).mono ?_); rintro e0 wa ⟨rfl, hb⟩; have YA : Hid (AC w wa W.heap.size) := X1.out.keep hb; clear hb)
      | (go_at_call 140; (with_reducible refine (CK.out W.drew).mono ?_); rintro e0 wa ⟨rfl, hb⟩; have XA : Hid (AB w wa) := X0.out.keep hb; clear hb)
      | (go_at_call 141; (with_reducible refine (CH.out wa YA.out.bl).mono ?_); rintro e0 wb ⟨⟨hv, rfl, rh⟩, hb⟩; obtain ⟨va, vc, rfl, _⟩ := row_form rh; have YB : Hid (AC w wb W.heap.size ∧ RowH wb (w.heap.size + 1) (.slice va h.x.hs.length vc) h.x.hs ∧ ∀ q, Value.ownBlock (.slice va h.x.hs.length vc) = some q → q ≠ W.heap.size) := ⟨(YA.out).keep hb, row_lower rh (Nat.succ_le_of_lt (Nat.lt_trans (YA.out).ra (YA.out).a.lt)), fun q hq => Nat.ne_of_gt (Nat.lt_of_lt_of_le (YA.out).a.lt (World.ownsRow.lt rh q hq).1)⟩; clear hb rh)
      | (go_at_call 141; (with_reducible refine (CH.out (wa.alloc (.cells #[.string ⟨#[]⟩, .int .i64 0, .slice none 0 0, .slice none 0 0, .int .i64 0, .int .i64 0, .int .i64 0, .int .i64 0, .int .i64 0, .bool false, .bool false, .slice none 0 0, .int .i64 0] 32)) XA.out.new.bl).mono ?_); rintro e0 wb ⟨⟨hv, rfl, rh⟩, hb⟩; obtain ⟨va, vc, rfl, _⟩ := row_form rh; have YB : Hid (AC w wb wa.heap.size ∧ RowH wb (w.heap.size + 1) (.slice va h.x.hs.length vc) h.x.hs ∧ ∀ q, Value.ownBlock (.slice va h.x.hs.length vc) = some q → q ≠ wa.heap.size) := ⟨(XA.out.new).keep hb, row_lower rh (Nat.succ_le_of_lt (Nat.lt_trans (XA.out.new).ra (XA.out.new).a.lt)), fun q hq => Nat.ne_of_gt (Nat.lt_of_lt_of_le (XA.out.new).a.lt (World.ownsRow.lt rh q hq).1)⟩; clear hb rh)
      | (go_at_call 141; (with_reducible refine (CH.out wa XA.out.bl).mono ?_); rintro e0 wb ⟨⟨hv, rfl, rh⟩, hb⟩; obtain ⟨va, vc, rfl, _⟩ := row_form rh; have XB : Hid (AB w wb ∧ RowH wb (w.heap.size + 1) (.slice va h.x.hs.length vc) h.x.hs) := ⟨(XA.out).keep hb, row_lower rh (Nat.succ_le_of_lt (XA.out).lt)⟩; clear hb rh)
      | (go_at_call 142; (with_reducible refine (CB.out wb YB.out.1.bl).mono ?_); rintro e0 wc ⟨⟨bv, rfl, rb⟩, hb⟩; obtain ⟨b2, k2, rfl, _⟩ := row_form rb; have BC : Hid (Below w.heap.size w wc) := (YB.out.1.bl).trans (hb.mono (YB.out.1.bl).size); have ZB : Hid (AR w h W.heap.size (.slice va h.x.hs.length vc) (.slice b2 h.x.bl.length k2) (((((((((((((wc.setCell ⟨W.heap.size, 0, none⟩ (.string h.x.key)).setCell ⟨W.heap.size, 1, none⟩ (.int .i64 h.x.st)).setCell ⟨W.heap.size, 2, none⟩ (.slice va h.x.hs.length vc)).setCell ⟨W.heap.size, 3, none⟩ (.slice b2 h.x.bl.length k2)).setCell ⟨W.heap.size, 4, none⟩ (.int .i64 h.x.t)).setCell ⟨W.heap.size, 5, none⟩ (.int .i64 h.x.g)).setCell ⟨W.heap.size, 6, none⟩ (.int .i64 h.x.l)).setCell ⟨W.heap.size, 7, none⟩ (.int .i64 h.x.s)).setCell ⟨W.heap.size, 8, none⟩ (.int .i64 h.x.e)).setCell ⟨W.heap.size, 9, none⟩ (.bool h.x.b1)).setCell ⟨W.heap.size, 10, none⟩ (.bool h.x.b2)).setCell ⟨W.heap.size, 11, none⟩ (.slice none 0 0)).setCell ⟨W.heap.size, 12, none⟩ (.int .i64 h.x.pins))) := ar_of YB.out.1 YB.out.2.1 YB.out.2.2 rb hb; obtain ⟨zz0, zz1, zz2, zz3, zz4, zz5, zz6, zz7, zz8, zz9, zz10, zz11, zz12, zfr, _⟩ := (YB.out.1).a.keep hb; have zf0 := zfr 0; have zf1 := zfr 1; have zf2 := zfr 2; have zf3 := zfr 3; have zf4 := zfr 4; have zf5 := zfr 5; have zf6 := zfr 6; have zf7 := zfr 7; have zf8 := zfr 8; have zf9 := zfr 9; have zf10 := zfr 10; have zf11 := zfr 11; have zf12 := zfr 12; clear zfr hb rb)
      | (go_at_call 142; (with_reducible refine (CB.out wb YB.out.1.bl).mono ?_); rintro e0 wc ⟨⟨bv, rfl, rb⟩, hb⟩; obtain ⟨b2, k2, rfl, _⟩ := row_form rb; have BC : Hid (Below w.heap.size w wc) := (YB.out.1.bl).trans (hb.mono (YB.out.1.bl).size); have ZB : Hid (AR w h wa.heap.size (.slice va h.x.hs.length vc) (.slice b2 h.x.bl.length k2) (((((((((((((wc.setCell ⟨wa.heap.size, 0, none⟩ (.string h.x.key)).setCell ⟨wa.heap.size, 1, none⟩ (.int .i64 h.x.st)).setCell ⟨wa.heap.size, 2, none⟩ (.slice va h.x.hs.length vc)).setCell ⟨wa.heap.size, 3, none⟩ (.slice b2 h.x.bl.length k2)).setCell ⟨wa.heap.size, 4, none⟩ (.int .i64 h.x.t)).setCell ⟨wa.heap.size, 5, none⟩ (.int .i64 h.x.g)).setCell ⟨wa.heap.size, 6, none⟩ (.int .i64 h.x.l)).setCell ⟨wa.heap.size, 7, none⟩ (.int .i64 h.x.s)).setCell ⟨wa.heap.size, 8, none⟩ (.int .i64 h.x.e)).setCell ⟨wa.heap.size, 9, none⟩ (.bool h.x.b1)).setCell ⟨wa.heap.size, 10, none⟩ (.bool h.x.b2)).setCell ⟨wa.heap.size, 11, none⟩ (.slice none 0 0)).setCell ⟨wa.heap.size, 12, none⟩ (.int .i64 h.x.pins))) := ar_of YB.out.1 YB.out.2.1 YB.out.2.2 rb hb; obtain ⟨zz0, zz1, zz2, zz3, zz4, zz5, zz6, zz7, zz8, zz9, zz10, zz11, zz12, zfr, _⟩ := (YB.out.1).a.keep hb; have zf0 := zfr 0; have zf1 := zfr 1; have zf2 := zfr 2; have zf3 := zfr 3; have zf4 := zfr 4; have zf5 := zfr 5; have zf6 := zfr 6; have zf7 := zfr 7; have zf8 := zfr 8; have zf9 := zfr 9; have zf10 := zfr 10; have zf11 := zfr 11; have zf12 := zfr 12; clear zfr hb rb)
      | (go_at_call 142; (with_reducible refine (CB.out (wb.alloc (.cells #[.string ⟨#[]⟩, .int .i64 0, .slice none 0 0, .slice none 0 0, .int .i64 0, .int .i64 0, .int .i64 0, .int .i64 0, .int .i64 0, .bool false, .bool false, .slice none 0 0, .int .i64 0] 32)) XB.out.1.new.bl).mono ?_); rintro e0 wc ⟨⟨bv, rfl, rb⟩, hb⟩; obtain ⟨b2, k2, rfl, _⟩ := row_form rb; have BC : Hid (Below w.heap.size w wc) := (XB.out.1.new.bl).trans (hb.mono (XB.out.1.new.bl).size); have ZB : Hid (AR w h wb.heap.size (.slice va h.x.hs.length vc) (.slice b2 h.x.bl.length k2) (((((((((((((wc.setCell ⟨wb.heap.size, 0, none⟩ (.string h.x.key)).setCell ⟨wb.heap.size, 1, none⟩ (.int .i64 h.x.st)).setCell ⟨wb.heap.size, 2, none⟩ (.slice va h.x.hs.length vc)).setCell ⟨wb.heap.size, 3, none⟩ (.slice b2 h.x.bl.length k2)).setCell ⟨wb.heap.size, 4, none⟩ (.int .i64 h.x.t)).setCell ⟨wb.heap.size, 5, none⟩ (.int .i64 h.x.g)).setCell ⟨wb.heap.size, 6, none⟩ (.int .i64 h.x.l)).setCell ⟨wb.heap.size, 7, none⟩ (.int .i64 h.x.s)).setCell ⟨wb.heap.size, 8, none⟩ (.int .i64 h.x.e)).setCell ⟨wb.heap.size, 9, none⟩ (.bool h.x.b1)).setCell ⟨wb.heap.size, 10, none⟩ (.bool h.x.b2)).setCell ⟨wb.heap.size, 11, none⟩ (.slice none 0 0)).setCell ⟨wb.heap.size, 12, none⟩ (.int .i64 h.x.pins))) := ar_of XB.out.1.new (row_below XB.out.2 ((Below.refl _ _).alloc (Nat.le_refl _) _)) (fun q hq => Nat.ne_of_lt (World.ownsRow.lt XB.out.2 q hq).2) rb hb; obtain ⟨zz0, zz1, zz2, zz3, zz4, zz5, zz6, zz7, zz8, zz9, zz10, zz11, zz12, zfr, _⟩ := (XB.out.1.new).a.keep hb; have zf0 := zfr 0; have zf1 := zfr 1; have zf2 := zfr 2; have zf3 := zfr 3; have zf4 := zfr 4; have zf5 := zfr 5; have zf6 := zfr 6; have zf7 := zfr 7; have zf8 := zfr 8; have zf9 := zfr 9; have zf10 := zfr 10; have zf11 := zfr 11; have zf12 := zfr 12; clear zfr hb rb)
      | (go_at_call 142; (with_reducible refine (CB.out wb XB.out.1.bl).mono ?_); rintro e0 wc ⟨⟨bv, rfl, rb⟩, hb⟩; obtain ⟨b2, k2, rfl, _⟩ := row_form rb; have BC : Hid (Below w.heap.size w wc) := (XB.out.1.bl).trans (hb.mono (XB.out.1.bl).size); have ZB : Hid (AR w h wc.heap.size (.slice va h.x.hs.length vc) (.slice b2 h.x.bl.length k2) (wc.alloc (.cells #[.string h.x.key, .int .i64 h.x.st, .slice va h.x.hs.length vc, .slice b2 h.x.bl.length k2, .int .i64 h.x.t, .int .i64 h.x.g, .int .i64 h.x.l, .int .i64 h.x.s, .int .i64 h.x.e, .bool h.x.b1, .bool h.x.b2, .slice none 0 0, .int .i64 h.x.pins] 32))) := ar_new XB.out.1 XB.out.2 rb hb; clear hb rb))
    all_goals (go_wp2_with fail; go_meet; exact ⟨_, va, vc, b2, k2, rfl, ZB.out⟩)
  case rest =>
  obtain ⟨A, va, vc, b2, k2, rfl, q0⟩ := hcut
  have HQR : Hid (AR w h A (.slice va h.x.hs.length vc) (.slice b2 h.x.bl.length k2) wc) := q0
  clear q0 HKS X0 X1 HAL CK CB CH HB1
  generalize wc = wr at *
  have HH : Hid (AN w h w.heap.size A (.slice va h.x.hs.length vc) (.slice b2 h.x.bl.length k2) (.slice none 0 0) wr ∧ RowH wr (w.heap.size + 1) (.slice va h.x.hs.length vc) h.x.hs) := ⟨HQR.out.n, HQR.out.h⟩
  obtain ⟨m2, hm2⟩ : ∃ m, Hid (wr.heap.size = m) := ⟨_, rfl⟩
  have HM2 : Hid (A < m2 ∧ w.heap.size < m2 ∧ (∀ q, Value.ownBlock (.slice b2 h.x.bl.length k2) = some q → q < m2) ∧ (∀ q, Value.ownBlock (.slice va h.x.hs.length vc) = some q → q < m2)) := ⟨by rw [← hm2.out]; exact HQR.out.n.a.lt, by rw [← hm2.out]; exact HQR.out.n.r.lt, fun q hq => by rw [← hm2.out]; exact (World.ownsRow.lt HQR.out.n.b q hq).2, fun q hq => by rw [← hm2.out]; exact (World.ownsRow.lt HQR.out.h q hq).2⟩
  have p11 := ((HS.out wr HQR.out.n.bl).cells).2.2.2.2.2.2.2.2.2.2.2.1
  have HNN : Hid ((∀ q, Value.ownBlock (.slice va h.x.hs.length vc) = some q → q ≠ A) ∧ (∀ q, Value.ownBlock (.slice va h.x.hs.length vc) = some q → ∀ q', Value.ownBlock (.slice b2 h.x.bl.length k2) = some q' → q ≠ q')) := ⟨HQR.out.hA, HQR.out.hb⟩
  clear HQR
  go_wp2_with fail
  clear p11
  obtain ⟨wo, hwo⟩ : ∃ wo : World, wo = wr := ⟨_, rfl⟩
  subst hwo
  go_loopw [39] (fun i wr => ∃ (j : Nat) (v : Value), j ≤ h.x.ts.length ∧ i = .int .i64 j ∧ AN w h w.heap.size A (.slice va h.x.hs.length vc) (.slice b2 h.x.bl.length k2) v wr ∧ wr.ownsRow m2 9 1 v j (cTexts (h.x.ts.take j)) ∧ m2 ≤ wr.heap.size ∧ RowH wr (w.heap.size + 1) (.slice va h.x.hs.length vc) h.x.hs) (fun i _ => h.x.ts.length - (intOf i).toNat)
  case atStart => exact ⟨0, .slice none 0 0, Nat.zero_le _, rfl, HH.out.1, World.ownsRow_nil _ _ _ _, by rw [hm2.out]; exact Nat.le_refl _, HH.out.2⟩
  case round =>
    obtain ⟨j, v, hj, rfl, hq, hrow, hms, hrh⟩ := hrel
    by_cases hlj : j < h.x.ts.length
    · obtain ⟨r, hr⟩ : ∃ r, h.x.ts[j]? = some r := ⟨h.x.ts[j]'hlj, List.getElem?_eq_getElem _⟩
      obtain ⟨ta2, tc2, rfl, _⟩ := row_form hrow
      have hsrc := (HS.out wr hq.bl).2.k
      rcases hsrc with e | ⟨b', off', er, hat⟩
      · rw [e] at hr; simp at hr
      have p0 := hat j r hr
      have sm := HTS.out r (List.mem_of_getElem? hr)
      rw [er]
      have g : (j : Int) < h.x.ts.length := by omega
      have g0 : (0 : Int) ≤ j := by omega
      have Q2 : Hid (AN w h w.heap.size A (.slice va h.x.hs.length vc) (.slice b2 h.x.bl.length k2) (.slice ta2 j tc2) wr) := hq
      have R2 : Hid (wr.ownsRow m2 9 1 (.slice ta2 j tc2) j (cTexts (h.x.ts.take j)) ∧ m2 ≤ wr.heap.size ∧ RowH wr (w.heap.size + 1) (.slice va h.x.hs.length vc) h.x.hs) := ⟨hrow, hms, hrh⟩
      have HT : Hid (cTexts (h.x.ts.take j) ++ [.string r] = cTexts (h.x.ts.take (j + 1))) := by
        show _ = _
        obtain ⟨hk2, rfl⟩ := List.getElem?_eq_some_iff.1 hr
        rw [List.take_succ_eq_append_getElem hk2]
        unfold cTexts
        rw [List.map_append]
        rfl
      have HKS : Hid (∀ X, Below wr.heap.size wr X → (fun X : World => X.cell? ⟨A, 11, none⟩ = some (.slice ta2 j tc2)) X) := fun X hb => (Q2.out.below hb).a.c11
      have B0 : Hid (Below wr.heap.size wr wr.drew) := (Below.refl _ _).drew
      have HS0 : Hid ((fun X : World => X.cell? ⟨A, 11, none⟩ = some (.slice ta2 j tc2)) wr.drew) := HKS.out _ B0.out
      have CL : Hid (∀ X, Calls Tryz.prog 140 #[.string r] X fun e w' => e = .returned (.string r) ∧ Below X.heap.size X w') := fun X => clone_text _ X sm
      clear hq hrow hms hat hr sm HH hrh
      go_wp2_with fail
      clear p0
      refine wp_region_last (fun X : World => X.cell? ⟨A, 11, none⟩ = some (.slice ta2 j tc2)) 7 (by kernel_rfl) ?_
      refine butLast_take (i := 0) (v := .pointer (some ⟨A, 11, none⟩)) rfl (by kernel_rfl) (by kernel_rfl) (by kernel_rfl) (by kernel_rfl) (fun _ _ _ h => h) (Or.inl ⟨by kernel_rfl, ?_⟩) HS0.out ?_
      · rintro X s1
        go_simp
      try simp only [Act.put, List.setIfInBounds_toArray, List.set_cons_zero, List.set_cons_succ]
      refine butLast_take (i := 1) (v := .slice ta2 j tc2) rfl (by kernel_rfl) (by kernel_rfl) (by kernel_rfl) (by kernel_rfl) (fun _ _ _ h => h) (Or.inl ⟨by kernel_rfl, ?_⟩) HS0.out ?_
      · rintro X s1
        go_simp
      try simp only [Act.put, List.setIfInBounds_toArray, List.set_cons_zero, List.set_cons_succ]
      refine butLast_take (i := 2) (v := .string r) rfl (by kernel_rfl) (by kernel_rfl) (by kernel_rfl) (by kernel_rfl) (fun _ _ _ h => h) (Or.inl ⟨by kernel_rfl, ?_⟩) HS0.out ?_
      · rintro X s1
        go_simp
      try simp only [Act.put, List.setIfInBounds_toArray, List.set_cons_zero, List.set_cons_succ]
      refine butLast_one (i := 3) rfl (by kernel_rfl) (fun K hK => ?_)
      go_simp
      refine (CL.out _).mono ?_
      rintro e wa2 ⟨rfl, hba2⟩
      have BA2 : Hid (Below wr.heap.size wr wa2) := B0.out.trans (hba2.mono B0.out.size)
      clear hba2
      refine hK _ _ (.inr (HKS.out _ BA2.out)) ?_
      clear hK K
      try simp only [Act.put, List.setIfInBounds_toArray, List.set_cons_zero, List.set_cons_succ]
      have BB2 : Hid (Below wr.heap.size wr (wa2.alloc (.cells #[.string r] 9))) := BA2.out.alloc BA2.out.size _
      refine butLast_one (i := 4) rfl (by kernel_rfl) (fun K hK => ?_)
      go_simp
      refine hK _ _ (.inr (HKS.out _ BB2.out)) ?_
      clear hK K
      try simp only [Act.put, List.setIfInBounds_toArray, List.set_cons_zero, List.set_cons_succ]
      obtain ⟨i0, hi0, hz0, hz1, hz2⟩ := info_parts cTextI
      obtain ⟨X3, hX3⟩ : ∃ X3, X3 = wa2.alloc (.cells #[.string r] 9) := ⟨_, rfl⟩
      have N3 : Hid (1 = 0 ∨ ∃ ad, some (⟨wa2.heap.size, 0, none⟩ : Addr) = some ad ∧ ∀ j u, ([Value.string r])[j]? = some u → X3.cell? (ad.add j) = some u) := by
        refine .inr ⟨_, rfl, fun j u hj => ?_⟩
        rw [cadd, hX3]
        match j, hj with
        | 0, hj => simp at hj; subst hj; simp
      have HX3 : Hid (X3 = wa2.alloc (.cells #[.string r] 9)) := hX3
      rw [← HX3.out] at BB2 ⊢
      clear hX3 HX3
      have RR3 : Hid (X3.ownsRow m2 9 1 (.slice ta2 j tc2) j (cTexts (h.x.ts.take j)) ∧ m2 ≤ X3.heap.size ∧ RowH X3 (w.heap.size + 1) (.slice va h.x.hs.length vc) h.x.hs) := ⟨row_below R2.out.1 BB2.out, Nat.le_trans R2.out.2.1 BB2.out.size, row_below R2.out.2.2 BB2.out⟩
      refine butLast_one (i := 5) rfl (by kernel_rfl) (fun K hK => ?_)
      refine step_append_in X3 (by rfl) _ _ 30 9 (by rfl) i0 _ 1 16 Tryz.underlying30 hi0 hz0 hz1 hz2 rfl (by omega) m2 _ j (cTexts (h.x.ts.take j)) (by rfl) RR3.out.1 (some ⟨wa2.heap.size, 0, none⟩) 1 1 [.string r] (by rfl) rfl N3.out (fun u hu => by simp at hu; subst hu; rfl) (by unfold maxLen; omega) (by omega) RR3.out.2.1 ?_
      intro v4 w4 h41 h42 h43
      have Q3 := Q2.out.below BB2.out
      have S3 := HKS.out _ BB2.out
      have Q4 : Hid (AN w h w.heap.size A (.slice va h.x.hs.length vc) (.slice b2 h.x.bl.length k2) (.slice ta2 j tc2) w4) := an_grow Q3 h42 HM2.out.1 HM2.out.2.2.1
      have S4' : Hid ((fun X : World => X.cell? ⟨A, 11, none⟩ = some (.slice ta2 j tc2)) w4) := Q4.out.a.c11
      obtain ⟨va4, vc4, rfl, _⟩ := row_form h41
      have R4 : Hid (w4.ownsRow m2 9 1 (.slice va4 (j + 1) vc4) (j + 1) (cTexts (h.x.ts.take (j + 1))) ∧ m2 ≤ w4.heap.size ∧ RowH w4 (w.heap.size + 1) (.slice va h.x.hs.length vc) h.x.hs) := by
        rw [HT.out] at h41
        exact ⟨h41, Nat.le_trans RR3.out.2.1 h42.size, row_keep RR3.out.2.2 h42 (fun q hq => HM2.out.2.2.2 q hq)⟩
      clear h41 h42 h43 Q3 S3
      refine hK _ _ (.inr S4'.out) ?_
      clear hK K
      try simp only [Act.put, List.setIfInBounds_toArray, List.set_cons_zero, List.set_cons_succ]
      refine butLast_one (i := 6) rfl (by kernel_rfl) (fun K hK => ?_)
      go_simp
      refine hK _ _ (.inr S4'.out) ?_
      clear hK K
      try simp only [Act.put, List.setIfInBounds_toArray, List.set_cons_zero, List.set_cons_succ]
      have y2 := Q4.out.a.c11
      have yf := Q4.out.a.fr 11
      have Q5 : Hid (AN w h w.heap.size A (.slice va h.x.hs.length vc) (.slice b2 h.x.bl.length k2) (.slice va4 (j + 1) vc4) (w4.setCell ⟨A, 11, none⟩ (.slice va4 (j + 1) vc4)) ∧ (w4.setCell ⟨A, 11, none⟩ (.slice va4 (j + 1) vc4)).ownsRow m2 9 1 (.slice va4 (j + 1) vc4) (j + 1) (cTexts (h.x.ts.take (j + 1))) ∧ m2 ≤ (w4.setCell ⟨A, 11, none⟩ (.slice va4 (j + 1) vc4)).heap.size ∧ RowH (w4.setCell ⟨A, 11, none⟩ (.slice va4 (j + 1) vc4)) (w.heap.size + 1) (.slice va h.x.hs.length vc) h.x.hs) := ⟨Q4.out.set11 _, row_off R4.out.1 _ HM2.out.1, by simpa using R4.out.2.1, row_ne R4.out.2.2 _ HNN.out.1⟩
      refine butLast_one (i := 7) rfl (by kernel_rfl) (fun K hK => ?_)
      go_simp
      refine hK _ _ (.inl rfl) ?_
      clear hK K
      refine butLast_end (by kernel_rfl) ?_
      clear y2 yf Q4 R4
      go_wp2_with fail
      go_roundw
      case rel => exact ⟨j + 1, .slice va4 (j + 1) vc4, by omega, by go_num, Q5.out.1, Q5.out.2.1, by simpa using Q5.out.2.2.1, Q5.out.2.2.2⟩
      case measure => simp [intOf]; omega
    · have hjn : j = h.x.ts.length := by omega
      subst hjn
      obtain ⟨ta2, tc2, rfl, _⟩ := row_form hrow
      have HE : Hid (EntRow wr (w.heap.size + 1) h.x ⟨va, vc, b2, k2, ta2, tc2⟩) := by
        have hrt : RowT wr m2 (.slice ta2 h.x.ts.length tc2) h.x.ts := by
          have := hrow
          rw [List.take_of_length_le (by omega)] at this
          exact this
        have hRA := hq.ra
        refine ⟨row_lower hrh (by omega), hq.b, row_lower hrt (by have := HM2.out.2.1; omega), ?_, ?_, ?_⟩
        · exact ne_of_blk HNN.out.2
        · exact ne_blk2 (m := m2) (fun q hq' => HM2.out.2.2.2 q hq') (fun q hq' => (World.ownsRow.lt hrt q hq').1)
        · exact ne_blk2 (m := m2) (fun q hq' => HM2.out.2.2.1 q hq') (fun q hq' => (World.ownsRow.lt hrt q hq').1)
      have HQ : Hid (AN w h w.heap.size A (.slice va h.x.hs.length vc) (.slice b2 h.x.bl.length k2) (.slice ta2 h.x.ts.length tc2) wr) := hq
      have FIN : Hid (∀ u0 u1 u2 u3 u4 u5 u6 u7 u8 u9 u10 u11 u12, EntRow (((((((((((((wr.setCell ⟨w.heap.size, 0, none⟩ u0).setCell ⟨w.heap.size, 1, none⟩ u1).setCell ⟨w.heap.size, 2, none⟩ u2).setCell ⟨w.heap.size, 3, none⟩ u3).setCell ⟨w.heap.size, 4, none⟩ u4).setCell ⟨w.heap.size, 5, none⟩ u5).setCell ⟨w.heap.size, 6, none⟩ u6).setCell ⟨w.heap.size, 7, none⟩ u7).setCell ⟨w.heap.size, 8, none⟩ u8).setCell ⟨w.heap.size, 9, none⟩ u9).setCell ⟨w.heap.size, 10, none⟩ u10).setCell ⟨w.heap.size, 11, none⟩ u11).setCell ⟨w.heap.size, 12, none⟩ u12) w.heap.size h.x ⟨va, vc, b2, k2, ta2, tc2⟩ ∧ Below w.heap.size w (((((((((((((wr.setCell ⟨w.heap.size, 0, none⟩ u0).setCell ⟨w.heap.size, 1, none⟩ u1).setCell ⟨w.heap.size, 2, none⟩ u2).setCell ⟨w.heap.size, 3, none⟩ u3).setCell ⟨w.heap.size, 4, none⟩ u4).setCell ⟨w.heap.size, 5, none⟩ u5).setCell ⟨w.heap.size, 6, none⟩ u6).setCell ⟨w.heap.size, 7, none⟩ u7).setCell ⟨w.heap.size, 8, none⟩ u8).setCell ⟨w.heap.size, 9, none⟩ u9).setCell ⟨w.heap.size, 10, none⟩ u10).setCell ⟨w.heap.size, 11, none⟩ u11).setCell ⟨w.heap.size, 12, none⟩ u12)) := fun u0 u1 u2 u3 u4 u5 u6 u7 u8 u9 u10 u11 u12 => ⟨(((((((((((((HE.out.off1 u0 (by omega)).off1 u1 (by omega)).off1 u2 (by omega)).off1 u3 (by omega)).off1 u4 (by omega)).off1 u5 (by omega)).off1 u6 (by omega)).off1 u7 (by omega)).off1 u8 (by omega)).off1 u9 (by omega)).off1 u10 (by omega)).off1 u11 (by omega)).off1 u12 (by omega)).lower (by omega), (((((((((((((HQ.out.bl.setCell (Nat.le_refl _) u0).setCell (Nat.le_refl _) u1).setCell (Nat.le_refl _) u2).setCell (Nat.le_refl _) u3).setCell (Nat.le_refl _) u4).setCell (Nat.le_refl _) u5).setCell (Nat.le_refl _) u6).setCell (Nat.le_refl _) u7).setCell (Nat.le_refl _) u8).setCell (Nat.le_refl _) u9).setCell (Nat.le_refl _) u10).setCell (Nat.le_refl _) u11).setCell (Nat.le_refl _) u12)⟩
      clear hq hrow hms hrh HE HH
      have z0 := HQ.out.r.c0
      have zf0 := HQ.out.r.fr 0
      have y0 := HQ.out.a.c0
      have z1 := HQ.out.r.c1
      have zf1 := HQ.out.r.fr 1
      have y1 := HQ.out.a.c1
      have z2 := HQ.out.r.c2
      have zf2 := HQ.out.r.fr 2
      have y2 := HQ.out.a.c2
      have z3 := HQ.out.r.c3
      have zf3 := HQ.out.r.fr 3
      have y3 := HQ.out.a.c3
      have z4 := HQ.out.r.c4
      have zf4 := HQ.out.r.fr 4
      have y4 := HQ.out.a.c4
      have z5 := HQ.out.r.c5
      have zf5 := HQ.out.r.fr 5
      have y5 := HQ.out.a.c5
      have z6 := HQ.out.r.c6
      have zf6 := HQ.out.r.fr 6
      have y6 := HQ.out.a.c6
      have z7 := HQ.out.r.c7
      have zf7 := HQ.out.r.fr 7
      have y7 := HQ.out.a.c7
      have z8 := HQ.out.r.c8
      have zf8 := HQ.out.r.fr 8
      have y8 := HQ.out.a.c8
      have z9 := HQ.out.r.c9
      have zf9 := HQ.out.r.fr 9
      have y9 := HQ.out.a.c9
      have z10 := HQ.out.r.c10
      have zf10 := HQ.out.r.fr 10
      have y10 := HQ.out.a.c10
      have z11 := HQ.out.r.c11
      have zf11 := HQ.out.r.fr 11
      have y11 := HQ.out.a.c11
      have z12 := HQ.out.r.c12
      have zf12 := HQ.out.r.fr 12
      have y12 := HQ.out.a.c12
      clear HQ
      go_wp2_with fail
      exact bodyPost_ret (v := .agg #[.string h.x.key, .int .i64 h.x.st, .slice va h.x.hs.length vc, .slice b2 h.x.bl.length k2, .int .i64 h.x.t, .int .i64 h.x.g, .int .i64 h.x.l, .int .i64 h.x.s, .int .i64 h.x.e, .bool h.x.b1, .bool h.x.b2, .slice ta2 h.x.ts.length tc2, .int .i64 h.x.pins]) (by simp [results, Tryz.results71, go_sem, z0, z1, z2, z3, z4, z5, z6, z7, z8, z9, z10, z11, z12]) rfl ⟨⟨⟨va, vc, b2, k2, ta2, tc2⟩, rfl, (FIN.out _ _ _ _ _ _ _ _ _ _ _ _ _).1⟩, (FIN.out _ _ _ _ _ _ _ _ _ _ _ _ _).2⟩
end Go.Proofs.YtmidfgjnaebfiaaGreatDoor
