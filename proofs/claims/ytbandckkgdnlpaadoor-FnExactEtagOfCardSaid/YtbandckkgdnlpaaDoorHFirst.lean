/-
  The first line of a name, on both sides; EtagOf.
-/
import Derived.Test.YtbandckkgdnlpaaDoorHJoinFns
import Derived.Test.YtbandckkgdnlpaaDoorHFaultImpl
namespace Go.Proofs.YtbandckkgdnlpaaDoor
open Go.ChangeShapes Go.WideShapes Go.ChangeAt Go.RowKit Go.Sort
theorem first_sizes {l : List Hdr} (h : headsC l = 0) : l.length ≤ 20 ∧ ∀ (i : Nat) r, l[i]? = some r → r.name.size ≤ 64 ∧ r.value.size ≤ 200 := by
  obtain ⟨h1, h2⟩ := headsC_zero h
  refine ⟨h1, fun i r hr => ?_⟩
  have := asked (l := l) (name := ⟨#[120]⟩) (by rw [askC, if_pos h]; decide +kernel)
  exact this.2.1 i r hr
def firstV (x : ByteArray) (l : List Hdr) : ByteArray := match firstAt x l with | some i => ((l[i]?).map (·.value)).getD ⟨#[]⟩ | none => ⟨#[]⟩
def firstB (x : ByteArray) (l : List Hdr) : Bool := (firstAt x l).isSome
theorem firstV_some {x : ByteArray} {l : List Hdr} {i : Nat} {r : Hdr} (h : firstAt x l = some i) (hr : l[i]? = some r) : firstV x l = r.value ∧ firstB x l = true := by
  unfold firstV firstB
  rw [h]
  simp [hr]
theorem firstV_none {x : ByteArray} {l : List Hdr} (h : firstAt x l = none) : firstV x l = ⟨#[]⟩ ∧ firstB x l = false := by
  unfold firstV firstB
  rw [h]
  simp
theorem firstAt_at {x : ByteArray} : ∀ {l : List Hdr} {k : Nat} {r : Hdr}, firstAt x (l.take k) = none → l[k]? = some r → lowS r.name = x → firstAt x l = some k
  | [], k, r, _, h, _ => by simp at h
  | y :: l, 0, r, _, h, hx => by
    simp at h
    subst h
    rw [firstAt, if_pos hx]
  | y :: l, k + 1, r, h0, h, hx => by
    rw [List.take_succ_cons, firstAt] at h0
    split at h0
    · cases h0
    · rename_i hy
      rw [firstAt, if_neg hy, firstAt_at (Option.map_eq_none_iff.1 h0) (by simpa using h) hx]
      rfl
theorem firstAt_over {x : ByteArray} {l : List Hdr} {k : Nat} {r : Hdr} (h0 : firstAt x (l.take k) = none) (h : l[k]? = some r) (hx : ¬ lowS r.name = x) : firstAt x (l.take (k + 1)) = none := by
  rw [take_hdr h, firstAt_snoc, h0]
  simp [hx]
theorem firstV_size {x : ByteArray} {l : List Hdr} (hz : ∀ (i : Nat) r, l[i]? = some r → r.name.size ≤ 64 ∧ r.value.size ≤ 200) : (firstV x l).size ≤ 200 := by
  cases h : firstAt x l with
  | none => rw [(firstV_none h).1]; decide
  | some i =>
    have hi := firstAt_lt h
    rw [(firstV_some h (List.getElem?_eq_getElem hi)).1]
    exact (hz i _ (List.getElem?_eq_getElem hi)).2
set_option maxRecDepth 100000 in
set_option maxHeartbeats 4000000 in
theorem l6First_any (w : World) (a : Option Addr) (cap : Nat) (l : List Hdr) (name : ByteArray) (h20 : l.length ≤ 20) (hz : ∀ (i : Nat) r, l[i]? = some r → r.name.size ≤ 64 ∧ r.value.size ≤ 200) (hnm : name.size ≤ 64) (hi : HdsIn w a l) :
    Calls Tryd.prog 43 #[.slice a l.length cap, .string name] w fun e w' => e = .returned (.tuple #[.string (firstV (lowS name) l), .bool (firstB (lowS name) l)]) ∧ Below w.heap.size w w' := by
  have HI : Hid (HdsIn w a l) := hi
  have HZ : Hid (∀ (i : Nat) r, l[i]? = some r → r.name.size ≤ 64 ∧ r.value.size ≤ 200) := hz
  clear hi hz
  generalize hn : l.length = n at *
  have HN : Hid (l.length = n) := hn
  clear hn
  go_enter Tryd.func43, Tryd.ntmps43
  go_wp2_with fail
  go_loopw [6] (fun i wr => ∃ k : Nat, k ≤ n ∧ i = .int .i64 k ∧ firstAt (lowS name) (l.take k) = none ∧ Below w.heap.size w wr) (fun i _ => n - (intOf i).toNat)
  case atStart => exact ⟨0, Nat.zero_le _, rfl, rfl, Below.refl _ _⟩
  case round =>
    obtain ⟨k, hk, rfl, hf, hb⟩ := hrel
    have HF : Hid (firstAt (lowS name) (l.take k) = none) := hf
    clear hf
    by_cases hlt : k < n
    · obtain ⟨r, hr⟩ : ∃ r, l[k]? = some r := ⟨l[k]'(by have := HN.out; omega), List.getElem?_eq_getElem _⟩
      obtain ⟨b, off, rfl, hat⟩ := HI.out.ok hr
      obtain ⟨p1, p3⟩ := (hat.keep hb) k r hr
      obtain ⟨z1, z2⟩ := HZ.out k r hr
      have gk : (k : Int) < n := by omega
      have SA := fun w => l4Alike_any r.name name w (by omega) (by omega)
      by_cases he : lowS r.name = lowS name
      · obtain ⟨e1, e2⟩ := firstV_some (firstAt_at HF.out hr he) hr
        have HR : Hid (firstV (lowS name) l = r.value ∧ firstB (lowS name) l = true) := ⟨e1, e2⟩
        have HSA : Hid (∀ w, Calls Tryd.prog 50 #[.string r.name, .string name] w fun e w' => e = .returned (.bool true) ∧ Below w.heap.size w w') := by
          rw [show decide (lowS r.name = lowS name) = true from by simpa using he] at SA
          exact SA
        have HAT : Hid (HeadsAt w b off l) := hat
        have HRR : Hid (l[k]? = some r) := hr
        clear SA he e1 e2 hat hr HI HZ HF
        obtain ⟨rn, rv⟩ := r
        simp only at p1 p3 z1 z2
        go_wp2_with fail
        refine (HSA.out _).mono ?_
        rintro e w2 ⟨rfl, hb2⟩
        have KB : Hid (Below w.heap.size w w2) := hb.trans (hb2.mono hb.size)
        obtain ⟨q1, q3⟩ := (HAT.out.keep KB.out) k _ HRR.out
        clear hb2 hb p1 p3
        simp only at q1 q3
        go_wp2_with fail
        go_ret2
        exact ⟨hret_sb HR.out.1.symm HR.out.2.symm, KB.out⟩
      · have HX : Hid (firstAt (lowS name) (l.take (k + 1)) = none) := firstAt_over HF.out hr he
        have HSA : Hid (∀ w, Calls Tryd.prog 50 #[.string r.name, .string name] w fun e w' => e = .returned (.bool false) ∧ Below w.heap.size w w') := by
          rw [show decide (lowS r.name = lowS name) = false from by simpa using he] at SA
          exact SA
        clear SA he hat hr HZ HF
        obtain ⟨rn, rv⟩ := r
        simp only at p1 p3 z1 z2
        go_wp2_with fail
        refine (HSA.out _).mono ?_
        rintro e w2 ⟨rfl, hb2⟩
        have KB : Hid (Below w.heap.size w w2) := hb.trans (hb2.mono hb.size)
        clear hb2 hb p1 p3
        go_wp2_with fail
        go_roundw
        case rel => exact ⟨k + 1, by omega, by go_num, HX.out, KB.out⟩
        case measure => simp [intOf]; omega
    · have HR : Hid (firstV (lowS name) l = ⟨#[]⟩ ∧ firstB (lowS name) l = false) := by
        have e : l.take k = l := List.take_of_length_le (by have := HN.out; omega)
        have := HF.out
        rw [e] at this
        exact firstV_none this
      go_wp2_with fail
      go_ret2
      exact ⟨hret_sb HR.out.1.symm HR.out.2.symm, hb⟩
set_option maxRecDepth 100000 in
set_option maxHeartbeats 4000000 in
theorem firstValue_any (w : World) (a : Option Addr) (cap : Nat) (l : List Hdr) (name : ByteArray) (h20 : l.length ≤ 20) (hz : ∀ (i : Nat) r, l[i]? = some r → r.name.size ≤ 64 ∧ r.value.size ≤ 200) (hnm : name.size ≤ 64) (hi : HdsIn w a l) :
    Calls Tryd.prog 28 #[.slice a l.length cap, .string name] w fun e w' => e = .returned (.tuple #[.string (firstV (lowS name) l), .bool (firstB (lowS name) l)]) ∧ Below w.heap.size w w' := by
  have HP := firstPlaces_any w a cap l h20 (fun i r hr => (hz i r hr).1) hi
  have HS : Hid (∀ W, Calls Tryd.prog 46 #[.string name] W fun e w' => e = .returned (.string (lowS name)) ∧ Below W.heap.size W w') := fun W => smallName_any name W (by omega)
  have HI : Hid (HdsIn w a l) := hi
  have sz := lowS_size name
  clear hi hz
  cases hf : firstAt (lowS name) l with
  | none =>
    have HR : Hid (firstV (lowS name) l = ⟨#[]⟩ ∧ firstB (lowS name) l = false) := firstV_none hf
    have HF : Hid (firstAt (lowS name) l = none) := hf
    clear hf
    generalize l.length = n at *
    generalize lowS name = q at *
    go_enter Tryd.func28, Tryd.ntmps28
    go_wp2_with fail
    refine HP.mono ?_
    rintro e w1 ⟨rfl, hm1, hb1⟩
    have HM1 : Hid (NamesMap w1 w.heap.size 20 (fun x => firstAt x l)) := hm1
    have HB1 : Hid (Below w.heap.size w w1) := hb1
    clear hm1 hb1 HP
    go_wp2_with fail
    refine (HS.out _).mono ?_
    rintro e w2 ⟨rfl, hb2⟩
    have HM2 : Hid (NamesMap w2 w.heap.size 20 (fun x => firstAt x l)) := HM1.out.below hb2
    have HB2 : Hid (Below w.heap.size w w2) := HB1.out.trans (hb2.mono HB1.out.size)
    clear hb2 HM1 HB1 HS
    go_wp2_with (at_lookup; refine wpList_look_none _ rfl _ _ rfl w.heap.size 20 _ rfl HM2.out q rfl (by omega) HF.out ?_)
    go_ret2
    exact ⟨hret_sb HR.out.1.symm HR.out.2.symm, HB2.out⟩
  | some i =>
    have hil := firstAt_lt hf
    obtain ⟨r, hr⟩ : ∃ r, l[i]? = some r := ⟨l[i], List.getElem?_eq_getElem hil⟩
    have HR : Hid (firstV (lowS name) l = r.value ∧ firstB (lowS name) l = true) := firstV_some hf hr
    have HF : Hid (firstAt (lowS name) l = some i) := hf
    obtain ⟨b, off, rfl, hat⟩ := HI.out.ok hr
    have HAT : Hid (∀ W, Below w.heap.size w W → W.cell? ⟨b, off + i * 2, none⟩ = some (.string r.name) ∧ W.cell? ⟨b, off + i * 2 + 1, none⟩ = some (.string r.value)) := fun W hb => (hat.keep hb) i r hr
    clear hf hr hat HI
    generalize l.length = n at *
    generalize lowS name = q at *
    generalize r.value = rv at *
    generalize r.name = rn at *
    have gi1 : (i : Int) < (n : Int) := by omega
    go_enter Tryd.func28, Tryd.ntmps28
    go_wp2_with fail
    refine HP.mono ?_
    rintro e w1 ⟨rfl, hm1, hb1⟩
    have HM1 : Hid (NamesMap w1 w.heap.size 20 (fun x => firstAt x l)) := hm1
    have HB1 : Hid (Below w.heap.size w w1) := hb1
    clear hm1 hb1 HP
    go_wp2_with fail
    refine (HS.out _).mono ?_
    rintro e w2 ⟨rfl, hb2⟩
    have HM2 : Hid (NamesMap w2 w.heap.size 20 (fun x => firstAt x l)) := HM1.out.below hb2
    have HB2 : Hid (Below w.heap.size w w2) := HB1.out.trans (hb2.mono HB1.out.size)
    obtain ⟨p1, p3⟩ := HAT.out _ HB2.out
    clear hb2 HM1 HB1 HS
    go_wp2_with (at_lookup; refine wpList_look_some _ rfl _ _ rfl w.heap.size 20 _ rfl HM2.out q rfl (by omega) i HF.out ?_)
    go_ret2
    exact ⟨hret_sb HR.out.1.symm HR.out.2.symm, HB2.out⟩
/-! ### EtagOf -/
def etagN : ByteArray := ⟨#[101, 116, 97, 103]⟩
theorem etag_low : lowS ⟨#[101, 116, 97, 103]⟩ = etagN := by decide +kernel
theorem etagI_low : lowS ⟨#[69, 84, 97, 103]⟩ = etagN := by decide +kernel
def etagC (l : List Hdr) : Int := if headsC l = 0 then (if firstV etagN l = ⟨#[]⟩ then 4 else 0) else headsC l
def etagT (l : List Hdr) : ByteArray := if headsC l = 0 then firstV etagN l else ⟨#[]⟩
theorem etag_bad {l : List Hdr} (h : ¬ headsC l = 0) : etagC l = headsC l ∧ etagT l = ⟨#[]⟩ := by rw [etagC, etagT, if_neg h, if_neg h]; exact ⟨rfl, rfl⟩
theorem etag_none {l : List Hdr} (h : headsC l = 0) (h2 : firstV etagN l = ⟨#[]⟩) : etagC l = 4 ∧ etagT l = ⟨#[]⟩ := by rw [etagC, etagT, if_pos h, if_pos h, if_pos h2]; exact ⟨rfl, h2⟩
theorem etag_some {l : List Hdr} (h : headsC l = 0) (h2 : ¬ firstV etagN l = ⟨#[]⟩) : etagC l = 0 ∧ etagT l = firstV etagN l := by rw [etagC, etagT, if_pos h, if_pos h, if_neg h2]; exact ⟨rfl, rfl⟩
theorem etxt_ne {a : ByteArray} (h : ¬ a = ⟨#[]⟩) : a.toList.isEmpty = false := by
  rw [ByteArray.toList_eq]
  cases hd : a.data.toList with
  | nil => exact absurd (ByteArray.ext (Array.ext' (by rw [hd]))) h
  | cons x l => rfl
theorem l6Etag_any (w : World) (a : Option Addr) (cap : Nat) (l : List Hdr) (h0 : headsC l = 0) (hi : HdsIn w a l) :
    Calls Tryd.prog 25 #[.slice a l.length cap] w fun e w' => e = .returned (.string (firstV etagN l)) ∧ Below w.heap.size w w' := by
  obtain ⟨h20, hz⟩ := first_sizes h0
  have H1 := l6First_any w a cap l ⟨#[101, 116, 97, 103]⟩ h20 hz (by decide) hi
  rw [etag_low] at H1
  generalize l.length = n at *
  clear hi hz
  obtain ⟨x, hx⟩ : ∃ x, Hid (firstV etagN l = x) := ⟨_, rfl⟩
  rw [hx.out] at H1 ⊢
  generalize firstB etagN l = y at *
  go_enter Tryd.func25, Tryd.ntmps25
  go_wp2_with fail
  refine H1.mono ?_
  rintro e w1 ⟨rfl, hb1⟩
  have HB : Hid (Below w.heap.size w w1) := hb1
  clear hb1
  go_wp2_with fail
  go_ret
  exact ⟨rfl, HB.out⟩
set_option maxRecDepth 100000 in
set_option maxHeartbeats 4000000 in
theorem specEtag_any (w : World) (a : Option Addr) (cap : Nat) (l : List Hdr) (hl : l.length ≤ 1048576) (hi : HdsIn w a l) :
    Calls Tryd.prog 7 #[.slice a l.length cap] w fun e w' => e = .returned (.agg #[.int .i64 (etagC l), .string (etagT l)]) ∧ Below w.heap.size w w' := by
  have HA : Hid (∀ W, Below w.heap.size w W → Calls Tryd.prog 24 #[.slice a l.length cap] W fun e w' => e = .returned (.int .i64 (headsC l)) ∧ Below W.heap.size W w') := fun W hb => specHFault_any W a cap l hl (hi.keep hb)
  by_cases h0 : headsC l = 0
  · have HJ : Hid (∀ W, Below w.heap.size w W → Calls Tryd.prog 25 #[.slice a l.length cap] W fun e w' => e = .returned (.string (firstV etagN l)) ∧ Below W.heap.size W w') := fun W hb => l6Etag_any W a cap l h0 (hi.keep hb)
    rw [h0] at HA
    clear hi
    generalize l.length = n at *
    by_cases hv : firstV etagN l = ⟨#[]⟩
    · rw [(etag_none h0 hv).1, (etag_none h0 hv).2]
      rw [hv] at HJ
      clear hv h0
      go_enter Tryd.func7, Tryd.ntmps7
      go_wp2_with fail
      refine (HA.out _ ((Below.refl _ _).alloc (Nat.le_refl _) _)).mono ?_
      rintro e w1 ⟨rfl, hb1⟩
      rw [World.size_alloc] at hb1
      have HB1 : Hid (Below (w.heap.size + 1) (w.alloc (.cells #[.int .i64 0, .string ⟨#[]⟩] 25)) w1) := hb1
      have hz1 : w.heap.size + 1 ≤ w1.heap.size := by have := hb1.size; rwa [World.size_alloc] at this
      clear hb1 HA
      go_wp2_with fail
      refine (HJ.out _ (text_room HB1.out).2.2.2.2.2).mono ?_
      rintro e w2 ⟨rfl, hb2⟩
      obtain ⟨hz2, q0, q1, f0, f1, kb⟩ := text_room (HB1.out.trans (hb2.mono hz1))
      obtain ⟨r0, r1⟩ := two_set (v0 := .int .i64 4) (v1 := .string ⟨#[]⟩) q0 q1
      clear hb2 HB1 HJ
      go_wp2_with fail
      exact bodyPost_ret (v := .agg #[.int .i64 4, .string ⟨#[]⟩]) (by simp [results, Tryd.results7, go_sem, r0, r1]) rfl ⟨rfl, (kb.setCell (Nat.le_refl _) _).setCell (Nat.le_refl _) _⟩
    · rw [(etag_some h0 hv).1, (etag_some h0 hv).2]
      have hne := etxt_ne hv
      clear h0 hv
      generalize firstV etagN l = jt at *
      go_enter Tryd.func7, Tryd.ntmps7
      go_wp2_with fail
      refine (HA.out _ ((Below.refl _ _).alloc (Nat.le_refl _) _)).mono ?_
      rintro e w1 ⟨rfl, hb1⟩
      rw [World.size_alloc] at hb1
      have HB1 : Hid (Below (w.heap.size + 1) (w.alloc (.cells #[.int .i64 0, .string ⟨#[]⟩] 25)) w1) := hb1
      have hz1 : w.heap.size + 1 ≤ w1.heap.size := by have := hb1.size; rwa [World.size_alloc] at this
      clear hb1 HA
      go_wp2_with fail
      refine (HJ.out _ (text_room HB1.out).2.2.2.2.2).mono ?_
      rintro e w2 ⟨rfl, hb2⟩
      have HB2 : Hid (Below (w.heap.size + 1) (w.alloc (.cells #[.int .i64 0, .string ⟨#[]⟩] 25)) w2) := HB1.out.trans (hb2.mono hz1)
      have hz2 : w.heap.size + 1 ≤ w2.heap.size := Nat.le_trans hz1 hb2.size
      clear hb2 HB1
      go_wp2_with fail
      refine (HJ.out _ (text_room HB2.out).2.2.2.2.2).mono ?_
      rintro e w3 ⟨rfl, hb3⟩
      obtain ⟨hz3, q0, q1, f0, f1, kb⟩ := text_room (HB2.out.trans (hb3.mono hz2))
      obtain ⟨r0, r1⟩ := two_set (v0 := .int .i64 0) (v1 := .string jt) q0 q1
      clear hb3 HB2 HJ
      go_wp2_with fail
      exact bodyPost_ret (v := .agg #[.int .i64 0, .string jt]) (by simp [results, Tryd.results7, go_sem, r0, r1]) rfl ⟨rfl, (kb.setCell (Nat.le_refl _) _).setCell (Nat.le_refl _) _⟩
  · rw [(etag_bad h0).1, (etag_bad h0).2]
    clear hi
    have hne : (headsC l != 0) = true := by simpa using h0
    generalize headsC l = fc at *
    generalize l.length = n at *
    go_enter Tryd.func7, Tryd.ntmps7
    go_wp2_with fail
    refine (HA.out _ ((Below.refl _ _).alloc (Nat.le_refl _) _)).mono ?_
    rintro e w1 ⟨rfl, hb1⟩
    rw [World.size_alloc] at hb1
    obtain ⟨hz2, q0, q1, f0, f1, kb⟩ := text_room hb1
    obtain ⟨r0, r1⟩ := two_set (v0 := .int .i64 fc) (v1 := .string ⟨#[]⟩) q0 q1
    clear hb1 HA
    go_wp2_with fail
    exact bodyPost_ret (v := .agg #[.int .i64 fc, .string ⟨#[]⟩]) (by simp [results, Tryd.results7, go_sem, r0, r1]) rfl ⟨rfl, (kb.setCell (Nat.le_refl _) _).setCell (Nat.le_refl _) _⟩
set_option maxRecDepth 100000 in
set_option maxHeartbeats 4000000 in
theorem implEtag_any (w : World) (a : Option Addr) (cap : Nat) (l : List Hdr) (hl : l.length ≤ 1048576) (hset : SetIs w) (hi : HdsIn w a l) :
    Calls Tryd.prog 9 #[.slice a l.length cap] w fun e w' => e = .returned (.agg #[.int .i64 (etagC l), .string (etagT l)]) ∧ Below w.heap.size w w' := by
  have HA : Hid (∀ W, Below w.heap.size w W → Calls Tryd.prog 27 #[.slice a l.length cap] W fun e w' => e = .returned (.int .i64 (headsC l)) ∧ Below W.heap.size W w') := fun W hb => implHFault_any W a cap l hl (hset.below hb) (hi.keep hb)
  by_cases h0 : headsC l = 0
  · obtain ⟨h20, hz⟩ := first_sizes h0
    have HJ : Hid (∀ W, Below w.heap.size w W → Calls Tryd.prog 28 #[.slice a l.length cap, .string ⟨#[69, 84, 97, 103]⟩] W fun e w' => e = .returned (.tuple #[.string (firstV etagN l), .bool (firstB etagN l)]) ∧ Below W.heap.size W w') := fun W hb => by
      have := firstValue_any W a cap l ⟨#[69, 84, 97, 103]⟩ h20 hz (by decide) (hi.keep hb)
      rw [etagI_low] at this
      exact this
    have hfz : (firstV etagN l).size ≤ 200 := firstV_size hz
    rw [h0] at HA
    clear hi hz
    generalize l.length = n at *
    generalize firstB etagN l = y at *
    by_cases hv : firstV etagN l = ⟨#[]⟩
    · rw [(etag_none h0 hv).1, (etag_none h0 hv).2]
      rw [hv] at HJ
      clear hv h0 hfz
      go_enter Tryd.func9, Tryd.ntmps9
      go_wp2_with fail
      refine (HA.out _ ((Below.refl _ _).alloc (Nat.le_refl _) _)).mono ?_
      rintro e w1 ⟨rfl, hb1⟩
      rw [World.size_alloc] at hb1
      have HB1 : Hid (Below (w.heap.size + 1) (w.alloc (.cells #[.int .i64 0, .string ⟨#[]⟩] 25)) w1) := hb1
      have hz1 : w.heap.size + 1 ≤ w1.heap.size := by have := hb1.size; rwa [World.size_alloc] at this
      clear hb1 HA
      go_wp2_with fail
      refine (HJ.out _ (text_room HB1.out).2.2.2.2.2).mono ?_
      rintro e w2 ⟨rfl, hb2⟩
      obtain ⟨hz2, q0, q1, f0, f1, kb⟩ := text_room (HB1.out.trans (hb2.mono hz1))
      obtain ⟨r0, r1⟩ := two_set (v0 := .int .i64 4) (v1 := .string ⟨#[]⟩) q0 q1
      clear hb2 HB1 HJ
      go_wp2_with fail
      exact bodyPost_ret (v := .agg #[.int .i64 4, .string ⟨#[]⟩]) (by simp [results, Tryd.results9, go_sem, r0, r1]) rfl ⟨rfl, (kb.setCell (Nat.le_refl _) _).setCell (Nat.le_refl _) _⟩
    · rw [(etag_some h0 hv).1, (etag_some h0 hv).2]
      have hne := etxt_ne hv
      clear h0 hv
      generalize firstV etagN l = jt at *
      go_enter Tryd.func9, Tryd.ntmps9
      go_wp2_with fail
      refine (HA.out _ ((Below.refl _ _).alloc (Nat.le_refl _) _)).mono ?_
      rintro e w1 ⟨rfl, hb1⟩
      rw [World.size_alloc] at hb1
      have HB1 : Hid (Below (w.heap.size + 1) (w.alloc (.cells #[.int .i64 0, .string ⟨#[]⟩] 25)) w1) := hb1
      have hz1 : w.heap.size + 1 ≤ w1.heap.size := by have := hb1.size; rwa [World.size_alloc] at this
      clear hb1 HA
      go_wp2_with fail
      refine (HJ.out _ (text_room HB1.out).2.2.2.2.2).mono ?_
      rintro e w2 ⟨rfl, hb2⟩
      have HB2 : Hid (Below (w.heap.size + 1) (w.alloc (.cells #[.int .i64 0, .string ⟨#[]⟩] 25)) w2) := HB1.out.trans (hb2.mono hz1)
      have hz2 : w.heap.size + 1 ≤ w2.heap.size := Nat.le_trans hz1 hb2.size
      clear hb2 HB1 HJ
      go_wp2_with fail
      refine (hclone_any jt _ (by omega)).mono ?_
      rintro e w3 ⟨rfl, hb3⟩
      obtain ⟨hz3, q0, q1, f0, f1, kb⟩ := text_room (HB2.out.trans (hb3.mono hz2))
      obtain ⟨r0, r1⟩ := two_set (v0 := .int .i64 0) (v1 := .string jt) q0 q1
      clear hb3 HB2
      go_wp2_with fail
      exact bodyPost_ret (v := .agg #[.int .i64 0, .string jt]) (by simp [results, Tryd.results9, go_sem, r0, r1]) rfl ⟨rfl, (kb.setCell (Nat.le_refl _) _).setCell (Nat.le_refl _) _⟩
  · rw [(etag_bad h0).1, (etag_bad h0).2]
    clear hi
    have hne : (headsC l != 0) = true := by simpa using h0
    generalize headsC l = fc at *
    generalize l.length = n at *
    go_enter Tryd.func9, Tryd.ntmps9
    go_wp2_with fail
    refine (HA.out _ ((Below.refl _ _).alloc (Nat.le_refl _) _)).mono ?_
    rintro e w1 ⟨rfl, hb1⟩
    rw [World.size_alloc] at hb1
    obtain ⟨hz2, q0, q1, f0, f1, kb⟩ := text_room hb1
    obtain ⟨r0, r1⟩ := two_set (v0 := .int .i64 fc) (v1 := .string ⟨#[]⟩) q0 q1
    clear hb1 HA
    go_wp2_with fail
    exact bodyPost_ret (v := .agg #[.int .i64 fc, .string ⟨#[]⟩]) (by simp [results, Tryd.results9, go_sem, r0, r1]) rfl ⟨rfl, (kb.setCell (Nat.le_refl _) _).setCell (Nat.le_refl _) _⟩
end Go.Proofs.YtbandckkgdnlpaaDoor
