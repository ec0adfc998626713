/-
  Texts of one claim, one behind the other.
-/
import Derived.ChangeArms
import Derived.Deep.RegionHeld3
import Derived.JoinedCond
import Derived.Laws.IdiomCopy
import Derived.MakeChecks
import Derived.ProofKit
import Derived.Shelf.Small.Wraps
import Derived.Shelf.Sort.Plain
import Derived.Shelf.Strings.Cut
import Derived.Shelf.Strings.FieldsFuncAny
import Derived.Shelf.Strings.Prefix
import Derived.Shelf.Strings.Split
import Derived.Sort.OwnSorted
import Derived.Test.YtopkidfbkhjaeaaGreatDoorRows
import Derived.Test.YtopkidfbkhjaeaaGreatDoorMgD
/-
  Results that hold a request: compared, marked, held.
-/
namespace Go.Proofs.YtopkidfbkhjaeaaGreatDoor
open Go.ChangeShapes Go.WideShapes Go.ChangeAt Go.RowKit
theorem HAV.after {v : Value} {w V w' : World} (hV : Below w.heap.size w V) (h : HAV v V w') : HAV v w w' :=
  ⟨Nat.le_trans hV.size h.size, fun b o hb hn => by rw [h.cell b o (Nat.lt_of_lt_of_le hb hV.size) hn]; exact hV.cell (p := ⟨b, o, none⟩) hb, fun b o hb hn => by rw [h.frozen b o (Nat.lt_of_lt_of_le hb hV.size) hn]; exact hV.frozen (p := ⟨b, o, none⟩) hb⟩
theorem HAV.then {v : Value} {w w1 w2 : World} (h : HAV v w w1) (hb : Below w1.heap.size w1 w2) : HAV v w w2 :=
  ⟨Nat.le_trans h.size hb.size, fun b o h1 h2 => by rw [hb.cell (p := ⟨b, o, none⟩) (Nat.lt_of_lt_of_le h1 h.size)]; exact h.cell b o h1 h2, fun b o h1 h2 => by rw [hb.frozen (p := ⟨b, o, none⟩) (Nat.lt_of_lt_of_le h1 h.size)]; exact h.frozen b o h1 h2⟩
theorem Five.av {v : Value} {W W' : World} {B : Nat} {v0 v1 v2 v3 v4 : Value} (h : Five W B v0 v1 v2 v3 v4) (k : HAV v W W') (hne : v.ownBlock ≠ some B) : Five W' B v0 v1 v2 v3 v4 :=
  ⟨by rw [k.cell B 0 h.lt hne]; exact h.c0, by rw [k.cell B 1 h.lt hne]; exact h.c1, by rw [k.cell B 2 h.lt hne]; exact h.c2, by rw [k.cell B 3 h.lt hne]; exact h.c3, by rw [k.cell B 4 h.lt hne]; exact h.c4, fun o => by rw [k.frozen B o h.lt hne]; exact h.fr o, Nat.lt_of_lt_of_le h.lt k.size⟩
set_option maxHeartbeats 2000000 in
theorem eqRequest_lv (W : World) (m h p : ByteArray) (a b : Option Addr) (n k ca cb : Nat) (l : List Hdr) (hl : l.length ≤ 1048576) (h1 : HLV W (.slice a n ca) l) (h2 : HLV W (.slice b k cb) l) :
    Calls Tryz.prog 23 #[.agg #[.string m, .string h, .string p, .slice a n ca], .agg #[.string m, .string h, .string p, .slice b k cb]] W fun e w' => e = .returned (.bool true) ∧ Below W.heap.size W w' := by
  obtain ⟨V, hV⟩ : ∃ V, V = (W.alloc (.cells #[.string m, .string h, .string p, .slice a n ca] 49)).alloc (.cells #[.string m, .string h, .string p, .slice b k cb] 49) := ⟨_, rfl⟩
  have HV : Hid (V = (W.alloc (.cells #[.string m, .string h, .string p, .slice a n ca] 49)).alloc (.cells #[.string m, .string h, .string p, .slice b k cb] 49)) := hV
  have bV : Below W.heap.size W V := by rw [hV]; exact ((Below.refl _ _).alloc (Nat.le_refl _) _).alloc (by simp) _
  have C := eqHeaderS_lv V _ _ l hl (h1.below bV) (h2.below bV)
  have HB : Hid (Below W.heap.size W V) := bV
  clear bV h1 h2 hV hl
  go_enter Tryz.func23, Tryz.ntmps23
  go_wp2_with fail
  rw [← HV.out]
  refine C.mono ?_
  rintro e w1 ⟨rfl, hb1⟩
  have KB : Hid (Below W.heap.size W w1) := HB.out.trans (hb1.mono HB.out.size)
  clear hb1 C HB HV
  go_wp2_with fail
  go_ret
  exact ⟨rfl, KB.out⟩
set_option maxHeartbeats 2000000 in
theorem eqRequestResult_lv (W : World) (c : Int) (m h p : ByteArray) (a b : Option Addr) (n k ca cb : Nat) (l : List Hdr) (hl : l.length ≤ 1048576) (h1 : HLV W (.slice a n ca) l) (h2 : HLV W (.slice b k cb) l) :
    Calls Tryz.prog 22 #[.agg #[.int .i64 c, .string m, .string h, .string p, .slice a n ca], .agg #[.int .i64 c, .string m, .string h, .string p, .slice b k cb]] W fun e w' => e = .returned (.bool true) ∧ Below W.heap.size W w' := by
  obtain ⟨V, hV⟩ : ∃ V, V = (W.alloc (.cells #[.int .i64 c, .string m, .string h, .string p, .slice a n ca] 51)).alloc (.cells #[.int .i64 c, .string m, .string h, .string p, .slice b k cb] 51) := ⟨_, rfl⟩
  have HV : Hid (V = (W.alloc (.cells #[.int .i64 c, .string m, .string h, .string p, .slice a n ca] 51)).alloc (.cells #[.int .i64 c, .string m, .string h, .string p, .slice b k cb] 51)) := hV
  have bV : Below W.heap.size W V := by rw [hV]; exact ((Below.refl _ _).alloc (Nat.le_refl _) _).alloc (by simp) _
  have C := eqRequest_lv V m h p a b n k ca cb l hl (h1.below bV) (h2.below bV)
  have HB : Hid (Below W.heap.size W V) := bV
  clear bV h1 h2 hV hl
  go_enter Tryz.func22, Tryz.ntmps22
  go_wp2_with fail
  rw [← HV.out]
  refine C.mono ?_
  rintro e w1 ⟨rfl, hb1⟩
  have KB : Hid (Below W.heap.size W w1) := HB.out.trans (hb1.mono HB.out.size)
  clear hb1 C HB HV
  go_wp2_with fail
  go_ret
  exact ⟨rfl, KB.out⟩
/-- Head lines marked: what holds behind it. -/
structure MkQ (base : Nat) (a : Option Addr) (n ca : Nat) (w w' : World) : Prop where
  lv : HLV w' (.slice a n ca) (mkHL 1 n)
  av : HAV (.slice a n ca) w w'
  low : Below base w w'
theorem MkQ.after {base : Nat} {a : Option Addr} {n ca : Nat} {w V w' : World} (hV : Below w.heap.size w V) (hb : base ≤ w.heap.size) (h : MkQ base a n ca V w') : MkQ base a n ca w w' :=
  ⟨h.lv, h.av.after hV, (hV.mono hb).trans h.low⟩
set_option maxRecDepth 100000 in
set_option maxHeartbeats 2000000 in
theorem markRequest_lv (w : World) (m h p : ByteArray) (a : Option Addr) (n ca : Nat) (l : List Hdr) (hn : n = l.length) (hl : l.length ≤ 1000) (hv : HLV w (.slice a n ca) l) (base : Nat) (hb : ∀ b, (Value.slice a n ca).ownBlock = some b → base ≤ b) (hbs : base ≤ w.heap.size) (q : Int) (hq : ((1 + 2 * n : Nat) : Int) = q) :
    Calls Tryz.prog 25 #[.agg #[.string m, .string h, .string p, .slice a n ca], .int .i64 1] w fun e w' => e = .returned (.int .i64 q) ∧ MkQ base a n ca w w' := by
  obtain ⟨V, hV⟩ : ∃ V, V = w.alloc (.cells #[.string m, .string h, .string p, .slice a n ca] 49) := ⟨_, rfl⟩
  have HV : Hid (V = w.alloc (.cells #[.string m, .string h, .string p, .slice a n ca] 49)) := hV
  have bV : Below w.heap.size w V := by rw [hV]; exact (Below.refl _ _).alloc (Nat.le_refl _) _
  have C : Calls Tryz.prog 52 #[.slice a n ca, .int .i64 1] V fun e w' => e = .returned (.int .i64 q) ∧ MkQ base a n ca w w' := by
    have := markHeaderS_lv V (.slice a n ca) l (by omega) (hv.below bV) base hb (Nat.le_trans hbs bV.size)
    rw [← hn, hq] at this
    exact this.mono fun e w1 ⟨he, h1, h2, h3⟩ => ⟨he, MkQ.after bV hbs ⟨h1, h2, h3⟩⟩
  clear bV hV hv hn hl hb hbs hq
  go_enter Tryz.func25, Tryz.ntmps25
  go_wp2_with fail
  rw [← HV.out]
  refine C.mono ?_
  rintro e w1 ⟨rfl, hk⟩
  have K : Hid (MkQ base a n ca w w1) := hk
  clear hk C HV
  go_wp2_with fail
  go_ret
  exact ⟨rfl, K.out⟩
set_option maxRecDepth 100000 in
set_option maxHeartbeats 2000000 in
theorem markRequestResult_lv (w : World) (c : Int) (m h p : ByteArray) (a : Option Addr) (n ca : Nat) (l : List Hdr) (hn : n = l.length) (hl : l.length ≤ 1000) (hv : HLV w (.slice a n ca) l) (base : Nat) (hb : ∀ b, (Value.slice a n ca).ownBlock = some b → base ≤ b) (hbs : base ≤ w.heap.size) (q : Int) (hq : ((1 + 2 * n : Nat) : Int) = q) :
    Calls Tryz.prog 27 #[.agg #[.int .i64 c, .string m, .string h, .string p, .slice a n ca], .int .i64 1] w fun e w' => e = .returned (.int .i64 q) ∧ MkQ base a n ca w w' := by
  obtain ⟨V, hV⟩ : ∃ V, V = w.alloc (.cells #[.int .i64 c, .string m, .string h, .string p, .slice a n ca] 51) := ⟨_, rfl⟩
  have HV : Hid (V = w.alloc (.cells #[.int .i64 c, .string m, .string h, .string p, .slice a n ca] 51)) := hV
  have bV : Below w.heap.size w V := by rw [hV]; exact (Below.refl _ _).alloc (Nat.le_refl _) _
  have C : Calls Tryz.prog 25 #[.agg #[.string m, .string h, .string p, .slice a n ca], .int .i64 1] V fun e w' => e = .returned (.int .i64 q) ∧ MkQ base a n ca w w' :=
    (markRequest_lv V m h p a n ca l hn hl (hv.below bV) base hb (Nat.le_trans hbs bV.size) q hq).mono fun e w1 ⟨he, h1⟩ => ⟨he, MkQ.after bV hbs h1⟩
  clear bV hV hv hn hl hb hbs hq
  go_enter Tryz.func27, Tryz.ntmps27
  go_wp2_with fail
  rw [← HV.out]
  refine C.mono ?_
  rintro e w1 ⟨rfl, hk⟩
  have K : Hid (MkQ base a n ca w w1) := hk
  clear hk C HV
  go_wp2_with fail
  go_ret
  exact ⟨rfl, K.out⟩
set_option maxHeartbeats 2000000 in
theorem heldRequest_lv (w : World) (m h p : ByteArray) (a : Option Addr) (n ca : Nat) (hl : n ≤ 1000) (hv : HLV w (.slice a n ca) (mkHL 1 n)) (q : Int) (hq : ((1 + 2 * n : Nat) : Int) = q) :
    Calls Tryz.prog 70 #[.agg #[.string m, .string h, .string p, .slice a n ca], .int .i64 1] w fun e w' => e = .returned (.int .i64 q) ∧ Below w.heap.size w w' := by
  have HE := heldHeaderS_lv (w.alloc (.cells #[.string m, .string h, .string p, .slice a n ca] 49)) (.slice a n ca) n (by omega) (hv.below ((Below.refl _ _).alloc (Nat.le_refl _) _))
  have g : ¬ q < 0 := by omega
  rw [hq] at HE
  clear hv hq
  go_enter Tryz.func70, Tryz.ntmps70
  go_wp2_with fail
  refine HE.mono ?_
  rintro e w1 ⟨rfl, hb⟩
  have KB : Hid (Below w.heap.size w w1) := ((Below.refl _ _).alloc (Nat.le_refl _) _).trans (hb.mono (by simp))
  clear hb HE
  go_wp2_with fail
  go_ret
  exact ⟨rfl, KB.out⟩
set_option maxHeartbeats 2000000 in
theorem heldRequestResult_lv (w : World) (c : Int) (m h p : ByteArray) (a : Option Addr) (n ca : Nat) (hl : n ≤ 1000) (hv : HLV w (.slice a n ca) (mkHL 1 n)) (q : Int) (hq : ((1 + 2 * n : Nat) : Int) = q) :
    Calls Tryz.prog 28 #[.agg #[.int .i64 c, .string m, .string h, .string p, .slice a n ca], .int .i64 1] w fun e w' => e = .returned (.int .i64 q) ∧ Below w.heap.size w w' := by
  have HE := heldRequest_lv (w.alloc (.cells #[.int .i64 c, .string m, .string h, .string p, .slice a n ca] 51)) m h p a n ca hl (hv.below ((Below.refl _ _).alloc (Nat.le_refl _) _)) q hq
  have g : ¬ q < 0 := by omega
  clear hv hq
  go_enter Tryz.func28, Tryz.ntmps28
  go_wp2_with fail
  refine HE.mono ?_
  rintro e w1 ⟨rfl, hb⟩
  have KB : Hid (Below w.heap.size w w1) := ((Below.refl _ _).alloc (Nat.le_refl _) _).trans (hb.mono (by simp))
  clear hb HE
  go_wp2_with fail
  go_ret
  exact ⟨rfl, KB.out⟩
end Go.Proofs.YtopkidfbkhjaeaaGreatDoor
/-
  What the model's ReadRequest answers.
-/
namespace Go.Proofs.YtopkidfbkhjaeaaGreatDoor
open Go.ChangeShapes Go.WideShapes Go.ChangeAt Go.RowKit
theorem int_ne_beq {a b : Int} (h : a ≠ b) : (a == b) = false := by rw [beq_eq_false_iff_ne]; exact h
theorem firstO_len {l a b : List UInt8} (h : firstO l = some (a, b)) : a.length ≤ l.length ∧ b.length ≤ l.length := by
  unfold firstO at h
  split at h
  · simp only [Option.some.injEq, Prod.mk.injEq] at h
    obtain ⟨rfl, rfl⟩ := h
    exact ⟨by rw [List.length_take]; omega, by rw [List.length_take, List.length_drop]; omega⟩
  · cases h
theorem read_okH {s : ByteArray} (h : readHC s = 0) : headsC (readHL s) = 0 := by
  unfold readHC readHL at *
  split at h
  · omega
  · rename_i hs
    rw [if_neg hs]
    split at h
    · omega
    · rename_i L hL
      rw [if_pos h]; exact h
theorem own_in {w : World} {base : Nat} {a : Option Addr} {n c : Nat} {L : List Hdr} (h : OwnH w base (.slice a n c) L) : n = L.length ∧ HdsIn w a L := by
  obtain ⟨a', c', e, hx⟩ := h.at
  simp only [Value.slice.injEq] at e
  obtain ⟨rfl, rfl, _⟩ := e
  exact ⟨rfl, hx⟩
end Go.Proofs.YtopkidfbkhjaeaaGreatDoor
/-
  What queryPieces answers.
-/
namespace Go.Proofs.YtopkidfbkhjaeaaGreatDoor
open Go.ChangeShapes Go.WideShapes Go.ChangeAt Go.RowKit
def qParts (s : ByteArray) : List (List UInt8) := fullP (cutG 38 [] s.data.toList)
theorem qParts_len (s : ByteArray) : (qParts s).length ≤ s.size + 1 := by
  have h1 := fullP_len (cutG 38 [] s.data.toList)
  have h2 := cutG_len 38 s.data.toList []
  rw [hsize_list] at h2
  unfold qParts
  omega
theorem textsW_enc (l : List (List UInt8)) : textsW (l.map hmk) = l.map encStr := by
  unfold textsW
  rw [List.map_map]
  rfl
end Go.Proofs.YtopkidfbkhjaeaaGreatDoor
/-
  What KeyOf and its model answer.
-/
namespace Go.Proofs.YtopkidfbkhjaeaaGreatDoor
open Go.ChangeShapes Go.WideShapes Go.ChangeAt Go.RowKit
def keyR (m h p : ByteArray) (l : List Hdr) : ByteArray := if reqC m h p l = 0 then hmk (keyT h p) else ⟨#[]⟩
theorem keyR_ok {m h p : ByteArray} {l : List Hdr} (c : reqC m h p l = 0) : keyR m h p l = hmk (keyT h p) := by rw [keyR, if_pos c]
theorem keyR_bad {m h p : ByteArray} {l : List Hdr} (c : ¬ reqC m h p l = 0) : keyR m h p l = ⟨#[]⟩ := by rw [keyR, if_neg c]
theorem qAt_pat : ∀ l : List UInt8, qAt l = patAt [63] l
  | [] => rfl
  | x :: r => by
    rw [qAt, patAt, pre_one, qAt_pat r]
    by_cases h : x = 63
    · simp [h]
    · simp [h]; try omega
theorem kcut_any (p : ByteArray) (w : World) (hm : MaxIs w) (hp : p.size ≤ 6000) :
    Calls Tryz.prog 282 #[.string p, .string ⟨#[63]⟩] w fun e w' => e = .returned (.tuple #[.string (hmk (p.data.toList.take (qAt p.data.toList))), .string (hmk (p.data.toList.drop (qAt p.data.toList + 1))), .bool (decide (qAt p.data.toList < p.data.toList.length))]) ∧ Below w.heap.size w w' := by
  obtain ⟨m, hm⟩ := hm
  have h := Any.strings_Cut Tryz.laysM145.ton145 p ⟨#[63]⟩ m w (by omega) hm
  rw [show (⟨#[63]⟩ : ByteArray).data.toList = [63] from rfl] at h
  rw [qAt_pat]
  by_cases c : patAt [63] p.data.toList < p.data.toList.length
  · rw [cut_pat (by simp) c] at h
    rw [decide_eq_true c]
    exact h.mono fun e w' ⟨h1, n, h2⟩ => ⟨h1, h2 ▸ below_drewN w n⟩
  · rw [cut_pat_no (by simp) c] at h
    rw [decide_eq_false c, List.take_of_length_le (by omega), List.drop_of_length_le (by omega)]
    exact h.mono fun e w' ⟨h1, n, h2⟩ => ⟨h1, h2 ▸ below_drewN w n⟩
theorem join_amp (w : World) (base : Nat) (v : Value) (xs : List ByteArray) (h : OwnS w base v xs) (hN : xs.length ≤ 1000000) (hlen : (Lib.join (xs.map (·.data.toList)) [38]).length ≤ 1000000) :
    Calls Tryz.prog 197 #[v, .string ⟨#[38]⟩] w fun e w' => e = .returned (.string ⟨(Lib.join (xs.map (·.data.toList)) [38]).toArray⟩) ∧ Below w.heap.size w w' := by
  have h0 := h
  obtain ⟨_, h1 | ⟨g, c, cur, rfl, _, hh, hcap, _⟩⟩ := h
  · have : xs = [] := List.eq_nil_of_length_eq_zero h1.2
    subst this
    rw [h1.1]
    exact (Any.strings_Join_none Tryz.lays156 joinExtra none 0 ⟨#[38]⟩ w).mono fun e w' ⟨he, hw⟩ => ⟨he, hw ▸ Below.refl _ _⟩
  · refine Any.strings_Join Tryz.lays156 joinExtra g 0 c xs ⟨#[38]⟩ w ?_ (Array.getElem?_eq_some_iff.1 hh).1 (by omega) hcap (by simpa using (by omega : (Lib.join (xs.map (·.data.toList)) [38]).length ≤ 140737488355328))
    intro j x hj
    have hj2 := (List.getElem?_eq_some_iff.1 hj).1
    have := World.ownsRow.cellAt h0 j (by omega)
    rw [show 0 + j = j from by omega]
    rw [this]
    simp [textsW, hj]
theorem hmk_back (S : List (List UInt8)) : (S.map hmk).map (·.data.toList) = S := by
  rw [List.map_map]
  have : ((fun x : ByteArray => x.data.toList) ∘ hmk) = id := by funext x; simp [hmk]
  rw [this, List.map_id]
theorem path_ascii {p : ByteArray} (h : pathS p = true) (k : Nat) : ∀ (i : Nat) (hi : i < (hmk (p.data.toList.drop k)).size), (hmk (p.data.toList.drop k))[i].toNat < 128 := by
  intro i hi
  have hm : (hmk (p.data.toList.drop k))[i] ∈ p.data.toList := by
    have h1 : (hmk (p.data.toList.drop k))[i] ∈ (hmk (p.data.toList.drop k)).data.toList := by
      show (hmk (p.data.toList.drop k)).data[i] ∈ _
      exact Array.mem_toList_iff.2 (Array.getElem_mem _)
    rw [hmk_list] at h1
    exact List.mem_of_mem_drop h1
  have h2 : allP pathI p.data.toList = true := by
    simp only [pathS, Bool.and_eq_true] at h
    exact h.2
  have h3 := allP_mem h2 _ hm
  by_cases c : (hmk (p.data.toList.drop k))[i].toNat < 128
  · exact c
  · rw [pathI_big _ (by omega)] at h3; cases h3
end Go.Proofs.YtopkidfbkhjaeaaGreatDoor
/-
  What requestIn answers.
-/
namespace Go.Proofs.YtopkidfbkhjaeaaGreatDoor
open Go.ChangeShapes Go.WideShapes Go.ChangeAt Go.RowKit
theorem pat_cr : ∀ l : List UInt8, patAt [13, 10] l = crAt l
  | [] => rfl
  | [x] => by simp [patAt, crAt, List.isPrefixOf]
  | x :: y :: r => by
    rw [patAt, crAt, pat_cr (y :: r)]
    by_cases h : x = 13 ∧ y = 10
    · rw [if_pos h, if_pos (by simp [List.isPrefixOf, h.1, h.2])]
    · rw [if_neg h, if_neg ?_]
      intro e
      simp only [List.isPrefixOf, Bool.and_true, Bool.and_eq_true, beq_iff_eq] at e
      exact h ⟨e.1.symm, e.2.symm⟩
theorem mcut_yes (l : List UInt8) (w : World) (hm : MaxIs w) (hl : l.length ≤ 20000) (h : crAt l < l.length) :
    Calls Tryz.prog 282 #[.string (hmk l), .string ⟨#[13, 10]⟩] w fun e w' => e = .returned (.tuple #[.string (hmk (l.take (crAt l))), .string (hmk (l.drop (crAt l + 2))), .bool true]) ∧ Below w.heap.size w w' := by
  obtain ⟨m, hm⟩ := hm
  have := Any.strings_Cut Tryz.laysM145.ton145 (hmk l) ⟨#[13, 10]⟩ m w (by rw [hmk_size]; omega) hm
  rw [hmk_list, show (⟨#[13, 10]⟩ : ByteArray).data.toList = [13, 10] from rfl, cut_cr h] at this
  exact this.mono fun e w' ⟨h1, n, h2⟩ => ⟨h1, h2 ▸ below_drewN w n⟩
theorem mcut_no (l : List UInt8) (w : World) (hm : MaxIs w) (hl : l.length ≤ 20000) (h : ¬ crAt l < l.length) :
    Calls Tryz.prog 282 #[.string (hmk l), .string ⟨#[13, 10]⟩] w fun e w' => e = .returned (.tuple #[.string (hmk l), .string ⟨#[]⟩, .bool false]) ∧ Below w.heap.size w w' := by
  obtain ⟨m, hm⟩ := hm
  have := Any.strings_Cut Tryz.laysM145.ton145 (hmk l) ⟨#[13, 10]⟩ m w (by rw [hmk_size]; omega) hm
  rw [hmk_list, show (⟨#[13, 10]⟩ : ByteArray).data.toList = [13, 10] from rfl, cut_pat_no (by simp) (by rw [pat_cr]; exact h)] at this
  exact this.mono fun e w' ⟨h1, n, h2⟩ => ⟨h1, h2 ▸ below_drewN w n⟩
theorem own_in3 {w : World} {base : Nat} {a : Option Addr} {n c : Nat} {L : List Hdr} (h : OwnH w base (.slice a n c) L) : n = L.length ∧ HdsIn w a L ∧ L.length ≤ c := by
  have h1 := own_in h
  refine ⟨h1.1, h1.2, ?_⟩
  obtain ⟨_, h2 | ⟨g, c', cur, e, _, _, hc, _⟩⟩ := h
  · have e := List.eq_nil_of_length_eq_zero h2.2
    rw [e]; exact Nat.zero_le _
  · simp only [Value.slice.injEq] at e
    obtain ⟨_, _, rfl⟩ := e
    exact hc
theorem m_field_heads (c : Int) (a : Option Addr) (n k : Nat) (w : World) : (Instr.field 90 (.agg #[.int .i64 c, .slice a n k]) 1).run Tryz.prog w = .ok (.slice a n k) w := by kernel_rfl
def put4 (w : World) (B : Nat) (v0 v1 v2 v3 : Value) : World := (((w.setCell ⟨B, 0, none⟩ v0).setCell ⟨B, 1, none⟩ v1).setCell ⟨B, 2, none⟩ v2).setCell ⟨B, 3, none⟩ v3
theorem four_put {w : World} {B : Nat} {u0 u1 u2 u3 v0 v1 v2 v3 : Value} (h : Four w B u0 u1 u2 u3) : Four (put4 w B v0 v1 v2 v3) B v0 v1 v2 v3 := by
  have o : ∀ (X : World) (i j : Nat) (v : Value), i ≠ j → (X.setCell ⟨B, i, none⟩ v).cell? ⟨B, j, none⟩ = X.cell? ⟨B, j, none⟩ := fun X i j v hij => World.cell?_setCell_other _ _ _ _ (off_ne hij)
  unfold put4
  refine ⟨?_, ?_, ?_, ?_, fun o => by simp only [World.frozen?_setCell]; exact h.fr o, by simpa using h.lt⟩
  · rw [o _ _ _ _ (by omega), o _ _ _ _ (by omega), o _ _ _ _ (by omega)]; exact World.cell?_setCell_same _ _ _ h.c0
  · rw [o _ _ _ _ (by omega), o _ _ _ _ (by omega)]; exact World.cell?_setCell_same _ _ _ (by rw [o _ _ _ _ (by omega)]; exact h.c1)
  · rw [o _ _ _ _ (by omega)]; exact World.cell?_setCell_same _ _ _ (by rw [o _ _ _ _ (by omega), o _ _ _ _ (by omega)]; exact h.c2)
  · exact World.cell?_setCell_same _ _ _ (by rw [o _ _ _ _ (by omega), o _ _ _ _ (by omega), o _ _ _ _ (by omega)]; exact h.c3)
theorem Below.put4 {w w' : World} {base B : Nat} {v0 v1 v2 v3 : Value} (h : Below base w w') (hB : base ≤ B) : Below base w (put4 w' B v0 v1 v2 v3) :=
  (((h.setCell hB _).setCell hB _).setCell hB _).setCell hB _
theorem ownH_put4 {w : World} {base B : Nat} {v : Value} {l : List Hdr} {v0 v1 v2 v3 : Value} (h : OwnH w base v l) (hB : B < base) : OwnH (put4 w B v0 v1 v2 v3) base v l :=
  ownH_set (ownH_set (ownH_set (ownH_set h hB) hB) hB) hB
/-- What requestIn hands back: a request (of its own, where there is no error), and the error of a code. -/
def QIn (E : Errs) (c : Int) (q : Rq) (base : Nat) (e : Ending) (w : World) : Prop := ∃ m h p a n k, e = .returned (.tuple #[.agg #[.string m, .string h, .string p, .slice a n k], errV E c]) ∧ (c = 0 → q.m = m ∧ q.h = h ∧ q.p = p ∧ OwnH w base (.slice a n k) q.l)
theorem QIn.bad {E : Errs} {c : Int} {q : Rq} {base : Nat} {m h p : ByteArray} {a : Option Addr} {n k : Nat} {w : World} {ev : Value} (h0 : ¬ c = 0) (he : ev = errV E c) : QIn E c q base (.returned (.tuple #[.agg #[.string m, .string h, .string p, .slice a n k], ev])) w := ⟨m, h, p, a, n, k, by rw [he], fun h => absurd h h0⟩
end Go.Proofs.YtopkidfbkhjaeaaGreatDoor
/-
  Bytes appended onto what a text was turned into.
-/
namespace Go.Proofs.YtopkidfbkhjaeaaGreatDoor
open Go.ChangeShapes Go.WideShapes Go.ChangeAt Go.RowKit
/-- A row of kc cells that may be written; its first ones hold l. -/
structure BFree (w : World) (g : Nat) (l : List UInt8) (kc : Nat) : Prop where
  at0 : BAt w g 0 l
  some : ∀ j, j < kc → (w.cell? ⟨g, j, none⟩).isSome = true
  free : ∀ j, j < kc → w.frozen? ⟨g, j, none⟩ = false
  le : l.length ≤ kc
  lt : g < w.heap.size
theorem BFree.keep {W W' : World} {g kc : Nat} {l : List UInt8} (h : BFree W g l kc) (hb : Below W.heap.size W W') : BFree W' g l kc :=
  ⟨h.at0.keep hb, fun j hj => by rw [hb.cell (p := ⟨g, j, none⟩) h.lt]; exact h.some j hj, fun j hj => by rw [hb.frozen (p := ⟨g, j, none⟩) h.lt]; exact h.free j hj, h.le, Nat.lt_of_lt_of_le h.lt hb.size⟩
theorem bytes_of_text2 (w : World) (s : ByteArray) : ∃ C cap, (convert 9 23 (.string s)).run Tryz.prog w = .ok (.slice (some ⟨w.heap.size, 0, none⟩) s.size cap) (w.drew.alloc (.cells C 5 (C.size, C.size + 1))) ∧ BFree (w.drew.alloc (.cells C 5 (C.size, C.size + 1))) w.heap.size s.data.toList cap := by
  have h1 := run_bytes_of_string (P := Tryz.prog) w 9 23 5 s Tryz.underlying9 Tryz.underlying23 Tryz.underlying5
  have h2 := fun cap => BRow.made w s cap _ rfl
  refine ⟨_, _, h1, ?_⟩
  have h3 := h2 (grownCap w s.size 0 5)
  have hge := grownCap_ge w s.size 0 5
  have hC : (bytesRow s (grownCap w s.size 0 5)).size = grownCap w s.size 0 5 := by
    unfold bytesRow
    rw [Array.size_append, Array.size_map, Array.size_replicate]
    show s.size + _ = _
    omega
  refine ⟨fun i c hc => ?_, fun j hj => ?_, fun j hj => ?_, by simpa using hge, ?_⟩
  · obtain ⟨hi, rfl⟩ := List.getElem?_eq_some_iff.1 hc
    rw [Nat.zero_add]
    exact h3.cell i hi
  · show (World.cell? (w.alloc _) ⟨w.heap.size, j, none⟩).isSome = true
    rw [World.cell?_alloc_mark, Array.getElem?_eq_getElem (by omega)]; rfl
  · have e := heap_alloc_new w (.cells (bytesRow s (grownCap w s.size 0 5)) 5 ((bytesRow s (grownCap w s.size 0 5)).size, (bytesRow s (grownCap w s.size 0 5)).size + 1))
    show World.frozen? (w.alloc _) ⟨w.heap.size, j, none⟩ = false
    unfold World.frozen?
    rw [e]
    simp
    omega
  · show w.heap.size < (w.drew.heap.push _).size
    rw [Array.size_push]; exact Nat.lt_succ_self _
def bytesV (l : List UInt8) : List Value := l.map fun c => Value.int .u8 (c.toNat : Int)
theorem bytesV_len (l : List UInt8) : (bytesV l).length = l.length := by simp [bytesV]
theorem bytesV_one (l : List UInt8) : ∀ u ∈ bytesV l, u.oneCell' = true := by
  intro u hu
  simp only [bytesV, List.mem_map] at hu
  obtain ⟨c, _, rfl⟩ := hu
  rfl
theorem bytesV_at {w : World} {b off : Nat} {l : List UInt8} (h : BAt w b off l) : ∀ j u, (bytesV l)[j]? = some u → w.cell? ((⟨b, off, none⟩ : Addr).add j) = some u := by
  intro j u hj
  have hadd : (⟨b, off, none⟩ : Addr).add j = ⟨b, off + j, none⟩ := by unfold Addr.add; split <;> simp_all
  rw [hadd]
  simp only [bytesV, List.getElem?_map, Option.map_eq_some_iff] at hj
  obtain ⟨c, hc, rfl⟩ := hj
  exact h j c hc
theorem below_setCells (g : Nat) : ∀ (vs : List Value) (o : Nat) (w : World), (w.setCells g o vs).heap.size = w.heap.size ∧ ∀ base, base ≤ g → Below base w (w.setCells g o vs)
  | [], _, w => ⟨rfl, fun _ _ => Below.refl _ _⟩
  | v :: r, o, w => by
    obtain ⟨h1, h2⟩ := below_setCells g r (o + 1) (w.setCell ⟨g, o, none⟩ v)
    refine ⟨by rw [World.setCells, h1]; simp, fun base hb => ?_⟩
    rw [World.setCells]
    exact ((Below.refl base w).setCell hb v).trans (h2 base hb)
set_option maxHeartbeats 1000000 in
theorem run_append_bytes (w : World) (ty : TypeId) (base g kc : Nat) (l : List UInt8) (hf : BFree w g l kc) (hbg : base ≤ g) (hbw : base ≤ w.heap.size) (b off cb : Nat) (bl : List UInt8) (hbl : BAt w b off bl) (hl : l.length + bl.length ≤ 1000000) :
    ∃ v' w', (Builtin.append_ #[23, 23] ty #[.slice (some ⟨g, 0, none⟩) l.length kc, .slice (some ⟨b, off, none⟩) bl.length cb]).run Tryz.prog w = .ok v' w' ∧ (∃ a k, v' = .slice a (l ++ bl).length k) ∧ BOwn w' base v' (l ++ bl) ∧ Below base w w' ∧ w.heap.size ≤ w'.heap.size := by
  obtain ⟨i0, hi, hz0, hz1, hz2⟩ := info_parts infoByteR
  by_cases hroom : l.length + bl.length ≤ kc
  · have hfc := run_firstCells_some (P := Tryz.prog) w i0.size bl.length ⟨b, off, none⟩ bl.length cb (bytesV bl) (by rw [bytesV_len, hz1, Nat.mul_one]) (bytesV_at hbl)
    have hst := run_storeCells_cells (P := Tryz.prog) g l.length (bytesV bl) 0 w (fun j hj => by rw [bytesV_len] at hj; exact hf.some _ (by omega)) (fun j hj => by rw [bytesV_len] at hj; exact hf.free _ (by omega)) (bytesV_one bl)
    rw [Nat.add_zero] at hst
    have hst' : (storeCells ⟨g, l.length * i0.size, none⟩ (bytesV bl) 0).run Tryz.prog w = .ok () (w.setCells g l.length (bytesV bl)) := by rw [hz1, Nat.mul_one]; exact hst
    refine ⟨.slice (some ⟨g, 0, none⟩) (l.length + bl.length) kc, w.setCells g l.length (bytesV bl), ?_, ⟨_, _, by rw [List.length_append]⟩, .inr ⟨g, kc, by rw [List.length_append], hbg, ?_⟩, (below_setCells g _ _ w).2 base hbg, by rw [(below_setCells g _ _ w).1]; exact Nat.le_refl _⟩
    · simp [Builtin.append_, run_underlying Tryz.underlying23, sizeOf, typeInfo, hi, Builtin.lenOf, hroom, hfc, Addr.add_lit, hst']
    · refine ⟨fun i c hc => ?_, fun o ho => by rw [World.frozen?_setCells]; exact hf.free o (by rw [List.length_append] at ho; omega), by rw [(below_setCells g _ _ w).1]; exact hf.lt⟩
      rw [Nat.zero_add]
      by_cases hi0 : i < l.length
      · rw [World.cell?_setCells_out g _ _ _ _ (fun _ _ => .inl hi0)]
        rw [List.getElem?_append_left hi0] at hc
        have := hf.at0 i c hc
        rwa [Nat.zero_add] at this
      · rw [List.getElem?_append_right (by omega)] at hc
        obtain ⟨hlt, hcc⟩ := List.getElem?_eq_some_iff.1 hc
        have hin := World.cell?_setCells_in g (bytesV bl) l.length w (fun j hj => by rw [bytesV_len] at hj; exact hf.some _ (by omega)) (i - l.length) (by rw [bytesV_len]; exact hlt)
        rw [show l.length + (i - l.length) = i from by omega] at hin
        rw [hin]
        simp [bytesV, hcc]
  · have holds : ∀ j u, (bytesV l)[j]? = some u → w.cell? ((⟨g, 0, none⟩ : Addr).add j) = some u := bytesV_at hf.at0
    have hr := run_append_grow (P := Tryz.prog) w 23 ty 5 i0 _ Tryz.underlying23 hi hz0 ⟨g, 0, none⟩ l.length kc (bytesV l) (by rw [bytesV_len, hz1, Nat.mul_one]) holds ⟨b, off, none⟩ bl.length cb (bytesV bl) (by rw [bytesV_len, hz1, Nat.mul_one]) (bytesV_at hbl) (by omega) (by omega) (growslice_fits (by omega) (by rw [hz2]; omega))
    have hge := grownCap_ge w (l.length + bl.length) kc 5
    refine ⟨_, _, hr, ⟨_, _, by rw [List.length_append]⟩, .inr ⟨w.heap.size, _, by rw [List.length_append], hbw, ?_⟩, ((Below.refl base w).drew).alloc (by exact hbw) _, by simp⟩
    refine ⟨fun i c hc => ?_, fun o ho => ?_, by simp⟩
    · rw [Nat.zero_add]
      show World.cell? (w.alloc _) ⟨w.heap.size, i, none⟩ = _
      rw [World.cell?_alloc_mark]
      have hlt : i < (l ++ bl).length := (List.getElem?_eq_some_iff.1 hc).1
      have e : ((bytesV l).toArray ++ (bytesV bl).toArray) = (bytesV (l ++ bl)).toArray := by simp [bytesV]
      rw [e, Array.getElem?_append_left (by simpa [bytesV_len] using hlt)]
      rw [List.getElem?_toArray]
      unfold bytesV
      rw [List.getElem?_map, hc]; rfl
    · show World.frozen? (w.alloc _) ⟨w.heap.size, o, none⟩ = false
      unfold World.frozen?
      rw [heap_alloc_new]
      simp
theorem wpList_append_bytes {ops : Array Oper} {rest : List Oper} {o : Oper} {a : Act} {Q : Exit → Act → World → Prop} (w : World) (hgd : o.guard = none) (s x : Operand)
    (ho : o.op = .call { callee := .builtin .append, args := #[s, x], argTypes := #[23, 23] }) (base g kc : Nat) (l : List UInt8) (hs : a.eval s = .slice (some ⟨g, 0, none⟩) l.length kc) (hf : BFree w g l kc) (hbg : base ≤ g) (hbw : base ≤ w.heap.size)
    (b off cb : Nat) (bl : List UInt8) (hx : a.eval x = .slice (some ⟨b, off, none⟩) bl.length cb) (hbl : BAt w b off bl) (hl : l.length + bl.length ≤ 1000000)
    (h : ∀ a' k' w', BOwn w' base (.slice a' (l ++ bl).length k') (l ++ bl) → Below base w w' → w.heap.size ≤ w'.heap.size → wpList Tryz.prog ops Q rest (a.put o.dst (.slice a' (l ++ bl).length k')) w') :
    wpList Tryz.prog ops Q (o :: rest) a w := by
  refine wpList_plain hgd fun K hK => ?_
  obtain ⟨v', w', hr, ⟨a', k', rfl⟩, h2, h3, h4⟩ := run_append_bytes w o.type base g kc l hf hbg hbw b off cb bl hbl hl
  unfold Oper.wp execOp
  simp only [ho, resolve, invoke, builtin, Sem.run_bind, Sem.run_pure, Result.andThen_ok, List.map_toArray, List.map_cons, List.map_nil, hs, hx, hr]
  exact hK _ _ (h a' k' w' h2 h3 h4)
end Go.Proofs.YtopkidfbkhjaeaaGreatDoor
/-
  What the model's l1Delta answers.
-/
namespace Go.Proofs.YtopkidfbkhjaeaaGreatDoor
open Go.ChangeShapes Go.WideShapes Go.ChangeAt Go.RowKit
set_option maxHeartbeats 400000 in
theorem l1Delta_size (s : ByteArray) (w : World) (h : s.size < 1 ∨ 64 < s.size) :
    Calls Tryz.prog 156 #[.string s] w fun e w' => e = .returned (.int .i64 (numD s)) ∧ w' = w := by
  rcases h with h | h
  · rw [numD_no s (okD_short s h)]
    have hh : (s.size : Int) < 1 := by omega
    go_enter Tryz.func156, Tryz.ntmps156
    go_wp2
    go_ret
    exact ⟨rfl, rfl⟩
  · rw [numD_no s (okD_long s h)]
    have hh : (64 : Int) < s.size := by omega
    have h1 : ¬ (s.size : Int) < 1 := by omega
    go_enter Tryz.func156, Tryz.ntmps156
    go_wp2
    go_ret
    exact ⟨rfl, rfl⟩
set_option maxHeartbeats 1000000 in
theorem l1Delta_any (s : ByteArray) (w : World) (h1 : 1 ≤ s.size) (h2 : s.size ≤ 64) :
    Calls Tryz.prog 156 #[.string s] w fun e w' => e = .returned (.int .i64 (numD s)) ∧ w' = w := by
  have g1 : ¬ (s.size : Int) < 1 := by omega
  have g2 : ¬ (64 : Int) < s.size := by omega
  go_enter Tryz.func156, Tryz.ntmps156
  go_wp2
  go_loop [3, 4] (fun n i => ∃ k : Nat, k ≤ s.size ∧ i = .int .i64 k ∧ allD (s.data.toList.take k) = true ∧ n = .int .i64 (valD (s.data.toList.take k))) (fun _ i => s.size - (intOf i).toNat)
  case atStart => exact ⟨0, Nat.zero_le _, rfl, rfl, rfl⟩
  case round =>
    obtain ⟨k, hk, rfl, hall, rfl⟩ := hrel
    have hd := valD_bd _ hall
    by_cases hlt : k < s.size
    · by_cases hdig : digB s[k] = true
      · have hb : 48 ≤ (s[k].toNat : Int) ∧ (s[k].toNat : Int) ≤ 57 := by simpa [digB] using hdig
        obtain ⟨hb1, hb2⟩ := hb
        have HS : Hid (valD (s.data.toList.take (k + 1)) = accD (valD (s.data.toList.take k)) s[k]) := by
          show _ = _
          rw [take_snoc s k hlt, valD_snoc]
        have HA : Hid (allD (s.data.toList.take (k + 1)) = true) := by
          show _ = _
          rw [take_snoc s k hlt, allD_snoc, hall, hdig]; rfl
        have d2 : decide ((s[k].toNat : Int) ≤ 57) = true := by simpa using hb2
        clear hdig hall
        generalize hv : valD (s.data.toList.take k) = n at *
        clear hv
        by_cases hm : n * 10 + ((s[k].toNat : Int) - 48) < 2147483648
        · have HE : Hid (valD (s.data.toList.take (k + 1)) = n * 10 + ((s[k].toNat : Int) - 48)) := by
            show _ = _
            rw [HS.out, accD, if_pos hm]
          go_wp2
          go_round
          case rel => exact ⟨k + 1, by omega, by go_num, HA.out, by rw [HE.out]; rfl⟩
          case measure => simp [intOf]; omega
        · have HE : Hid (valD (s.data.toList.take (k + 1)) = 2147483648) := by
            show _ = _
            rw [HS.out, accD, if_neg hm]
          go_wp2
          go_round
          case rel => exact ⟨k + 1, by omega, by go_num, HA.out, by rw [HE.out]; rfl⟩
          case measure => simp [intOf]; omega
      · have hf : digB s[k] = false := by simpa using hdig
        have HN : Hid (numD s = -1) := numD_no s (okD_not s k hlt hf)
        have hb : ¬ (48 ≤ (s[k].toNat : Int) ∧ (s[k].toNat : Int) ≤ 57) := by simpa [digB] using hdig
        clear hdig hf
        by_cases hb1 : 48 ≤ (s[k].toNat : Int)
        · have hb2 : 57 < (s[k].toNat : Int) := by omega
          have d2 : decide ((s[k].toNat : Int) ≤ 57) = false := by simp; omega
          clear hb hall hd
          go_wp2
          go_ret
          exact ⟨ret_int (by rw [HN.out]), rfl⟩
        · clear hb hall hd
          go_wp2
          go_ret
          exact ⟨ret_int (by rw [HN.out]), rfl⟩
    · have ek : s.data.toList.take k = s.data.toList := List.take_of_length_le (by simp; omega)
      rw [ek] at hall hd ⊢
      have HN : Hid (numD s = valD s.data.toList) := numD_yes s (okD_yes s h1 h2 hall)
      clear ek hall
      go_wp2
      go_ret
      exact ⟨ret_int (by rw [HN.out]), rfl⟩
end Go.Proofs.YtopkidfbkhjaeaaGreatDoor
/-
  What DeltaOf's model and DeltaOf itself answer, for any text; the law out of them.
-/
namespace Go.Proofs.YtopkidfbkhjaeaaGreatDoor
open Go.ChangeShapes Go.WideShapes Go.ChangeAt Go.RowKit
set_option maxHeartbeats 400000 in
theorem implDelta_size (s : ByteArray) (w : World) (h : s.size < 1 ∨ 64 < s.size) :
    Calls Tryz.prog 209 #[.string s] w fun e w' => e = .returned (.agg #[.int .i64 5, .int .i64 0]) ∧ Below w.heap.size w w' := by
  rcases h with h | h
  · have hh : (s.size : Int) < 1 := by omega
    go_enter Tryz.func209, Tryz.ntmps209
    go_wp2
    exact bodyPost_ret (v := .agg #[.int .i64 5, .int .i64 0]) (by simp [results, Tryz.results209, go_sem]) rfl ⟨rfl, (Below.refl _ _).alloc (Nat.le_refl _) _⟩
  · have hh : (64 : Int) < s.size := by omega
    have h1 : ¬ (s.size : Int) < 1 := by omega
    go_enter Tryz.func209, Tryz.ntmps209
    go_wp2
    exact bodyPost_ret (v := .agg #[.int .i64 5, .int .i64 0]) (by simp [results, Tryz.results209, go_sem]) rfl ⟨rfl, (Below.refl _ _).alloc (Nat.le_refl _) _⟩
def dC (s : ByteArray) : Int := if okD s = true then 0 else 5
def dV (s : ByteArray) : Int := if okD s = true then valD s.data.toList else 0
theorem dC_no {s : ByteArray} (h : okD s = false) : dC s = 5 := by simp [dC, h]
theorem dV_no {s : ByteArray} (h : okD s = false) : dV s = 0 := by simp [dV, h]
theorem dC_yes {s : ByteArray} (h : okD s = true) : dC s = 0 := by simp [dC, h]
theorem dV_yes {s : ByteArray} (h : okD s = true) : dV s = valD s.data.toList := by simp [dV, h]
set_option maxHeartbeats 1000000 in
theorem implDelta_any (s : ByteArray) (w : World) (h1 : 1 ≤ s.size) (h2 : s.size ≤ 64) :
    Calls Tryz.prog 209 #[.string s] w fun e w' => e = .returned (.agg #[.int .i64 (dC s), .int .i64 (dV s)]) ∧ Below w.heap.size w w' := by
  have g1 : ¬ (s.size : Int) < 1 := by omega
  have g2 : ¬ (64 : Int) < s.size := by omega
  go_enter Tryz.func209, Tryz.ntmps209
  go_wp2
  go_loop [3, 16] (fun n i => ∃ k : Nat, k ≤ s.size ∧ i = .int .i64 k ∧ allD (s.data.toList.take k) = true ∧ n = .int .i64 (valD (s.data.toList.take k))) (fun _ i => s.size - (intOf i).toNat)
  case atStart => exact ⟨0, Nat.zero_le _, rfl, rfl, rfl⟩
  case round =>
    obtain ⟨k, hk, rfl, hall, rfl⟩ := hrel
    have hd := valD_bd _ hall
    by_cases hlt : k < s.size
    · by_cases hdig : digB s[k] = true
      · have hb : 48 ≤ (s[k].toNat : Int) ∧ (s[k].toNat : Int) ≤ 57 := by simpa [digB] using hdig
        obtain ⟨hb1, hb2⟩ := hb
        have HS : Hid (valD (s.data.toList.take (k + 1)) = accD (valD (s.data.toList.take k)) s[k]) := by
          show _ = _
          rw [take_snoc s k hlt, valD_snoc]
        have HA : Hid (allD (s.data.toList.take (k + 1)) = true) := by
          show _ = _
          rw [take_snoc s k hlt, allD_snoc, hall, hdig]; rfl
        have d2 : decide ((s[k].toNat : Int) ≤ 57) = true := by simpa using hb2
        clear hdig hall
        generalize hv : valD (s.data.toList.take k) = n at *
        clear hv
        by_cases hm : n * 10 + ((s[k].toNat : Int) - 48) < 2147483648
        · have HE : Hid (valD (s.data.toList.take (k + 1)) = n * 10 + ((s[k].toNat : Int) - 48)) := by
            show _ = _
            rw [HS.out, accD, if_pos hm]
          go_wp2
          go_round
          case rel => exact ⟨k + 1, by omega, by go_num, HA.out, by first | (rw [HE.out]; done) | (rw [HE.out]; congr 1; first | omega | (simp only [Int.min_def]; split <;> omega))⟩
          case measure => simp [intOf]; omega
        · have HE : Hid (valD (s.data.toList.take (k + 1)) = 2147483648) := by
            show _ = _
            rw [HS.out, accD, if_neg hm]
          go_wp2
          go_round
          case rel => exact ⟨k + 1, by omega, by go_num, HA.out, by rw [HE.out]; congr 1; first | (split <;> omega) | omega | (simp only [Int.min_def]; split <;> omega)⟩
          case measure => simp [intOf]; omega
      · have hf : digB s[k] = false := by simpa using hdig
        have ho := okD_not s k hlt hf
        have HO : Hid (okD s = false) := ho
        have hb : ¬ (48 ≤ (s[k].toNat : Int) ∧ (s[k].toNat : Int) ≤ 57) := by simpa [digB] using hdig
        clear hdig hf ho
        by_cases hb1 : 48 ≤ (s[k].toNat : Int)
        · have hb2 : 57 < (s[k].toNat : Int) := by omega
          have d2 : decide ((s[k].toNat : Int) ≤ 57) = false := by simp; omega
          clear hb hall hd
          go_wp2
          exact bodyPost_ret (v := .agg #[.int .i64 5, .int .i64 0]) (by simp [results, Tryz.results209, go_sem]) rfl ⟨by rw [dC_no HO.out, dV_no HO.out], (Below.refl _ _).alloc (Nat.le_refl _) _⟩
        · clear hb hall hd
          go_wp2
          exact bodyPost_ret (v := .agg #[.int .i64 5, .int .i64 0]) (by simp [results, Tryz.results209, go_sem]) rfl ⟨by rw [dC_no HO.out, dV_no HO.out], (Below.refl _ _).alloc (Nat.le_refl _) _⟩
    · have ek : s.data.toList.take k = s.data.toList := List.take_of_length_le (by simp; omega)
      rw [ek] at hall hd ⊢
      have ho := okD_yes s h1 h2 hall
      have HO : Hid (okD s = true) := ho
      clear ek hall ho
      go_wp2
      exact bodyPost_ret (v := .agg #[.int .i64 0, .int .i64 (valD s.data.toList)]) (by simp [results, Tryz.results209, go_sem]) rfl ⟨by rw [dC_yes HO.out, dV_yes HO.out], (Below.refl _ _).alloc (Nat.le_refl _) _⟩
theorem implDelta (s : ByteArray) (w : World) :
    Calls Tryz.prog 209 #[.string s] w fun e w' => e = .returned (.agg #[.int .i64 (dC s), .int .i64 (dV s)]) ∧ Below w.heap.size w w' := by
  by_cases c : s.size < 1 ∨ 64 < s.size
  · have h : okD s = false := by
      rcases c with c | c
      · exact okD_short s c
      · exact okD_long s c
    rw [dC_no h, dV_no h]; exact implDelta_size s w c
  · exact implDelta_any s w (by omega) (by omega)
end Go.Proofs.YtopkidfbkhjaeaaGreatDoor
/-
  Bytes copied; results that hold a response.
-/
namespace Go.Proofs.YtopkidfbkhjaeaaGreatDoor
open Go.ChangeShapes Go.WideShapes Go.ChangeAt Go.RowKit
theorem OwnB.bown {w : World} {base : Nat} {v : Value} {l : List UInt8} (h : OwnB w base v l) : BOwn w base v l := by
  have h0 := h.own
  obtain ⟨_, h1 | ⟨g, c, cur, rfl, hg, hh, _⟩⟩ := h.own
  · exact absurd h1.1 h.nn
  · refine .inr ⟨g, c, rfl, hg, fun i x hx => ?_, fun o _ => by simp [World.frozen?, hh], (Array.getElem?_eq_some_iff.1 hh).1⟩
    have hi := (List.getElem?_eq_some_iff.1 hx).1
    have := h0.cellAt i (by omega)
    rw [Nat.zero_add, this]
    simp [bytesW, hx]
theorem wpList_append_bs {ops : Array Oper} {rest : List Oper} {o : Oper} {a : Act} {Q : Exit → Act → World → Prop} (w : World) (hgd : o.guard = none) (s x : Operand)
    (ho : o.op = .call { callee := .builtin .append, args := #[s, x], argTypes := #[23, 23] }) (base : Nat) (v : Value) (l m : List UInt8) (n : Nat) (hn : m.length = n) (b off c : Nat)
    (hs : a.eval s = v) (hx : a.eval x = .slice (some ⟨b, off, none⟩) n c) (hown : OwnB w base v l) (hm : BAt w b off m) (hl : l.length + m.length ≤ 1000000) (hbase : base ≤ w.heap.size)
    (h : ∀ v' w', OwnB w' base v' (l ++ m) → Below base w w' → wpList Tryz.prog ops Q rest (a.put o.dst v') w') :
    wpList Tryz.prog ops Q (o :: rest) a w := by
  subst hn
  obtain ⟨i0, hi, hz0, hz1, hz2⟩ := info_parts infoByteB
  refine wpList_append_own _ hgd s x 23 ho base 5 i0 (.int .u8 0) 1 1 Tryz.underlying23 hi hz0 hz1 hz2 rfl (by decide) v l.length (bytesW l) hs hown.own ⟨b, off, none⟩ m.length c (bytesV m) hx (by simp [bytesV]) (bytesV_at hm) (bytesV_one m) ?_ ?_ hbase ?_
  · unfold maxLen; omega
  · omega
  · intro v' w' h1 h2 h3
    have e : bytesW (l ++ m) = bytesW l ++ bytesV m := by simp [bytesW, bytesV]
    exact h v' w' ⟨by rw [e, List.length_append]; exact h1, fun hv => hown.nn (h3.1 hv).1⟩ ((Below.refl base w).grown h2 hbase (fun q hq => own_geB hown.own q hq))
def BCopy (l : List UInt8) (base : Nat) (e : Ending) (w : World) : Prop := ∃ a n k, e = .returned (.slice a n k) ∧ BOwn w base (.slice a n k) l
set_option maxHeartbeats 2000000 in
theorem l1Copy_any (w : World) (b off cap : Nat) (l : List UInt8) (n : Nat) (hn : l.length = n) (hl : l.length ≤ 900000) (h : BAt w b off l) :
    Calls Tryz.prog 119 #[.slice (some ⟨b, off, none⟩) n cap] w fun e w' => BCopy l w.heap.size e w' ∧ Below w.heap.size w w' := by
  have a0 : Below w.heap.size w (w.alloc (.cells #[] 5)) := (Below.refl _ _).alloc (Nat.le_refl _) _
  have HO : Hid (OwnB (w.alloc (.cells #[] 5)) w.heap.size (.slice (some ⟨w.heap.size, 0, none⟩) 0 0) []) := OwnB.made w w.heap.size (Nat.le_refl _) [] (by simp)
  have HA : Hid (BAt (w.alloc (.cells #[] 5)) b off l) := h.keep a0
  have HB : Hid (Below w.heap.size w (w.alloc (.cells #[] 5))) := a0
  clear h a0
  go_enter Tryz.func119, Tryz.ntmps119
  go_wp2_with (at_builtin; refine wpList_append_bs _ rfl (.tmp 3) (.tmp 4) rfl w.heap.size _ [] l n hn b off cap rfl rfl HO.out HA.out (by simp; omega) (by simp) ?_; intro v4 w4 ho4 hb4; have HF : Hid (OwnB w4 w.heap.size v4 l ∧ Below w.heap.size w w4) := ⟨by simpa using ho4, HB.out.trans hb4⟩; clear ho4 hb4)
  go_ret
  have h1 := HF.out.1.bown
  obtain ⟨a, k, e, _⟩ := h1.shape
  exact ⟨⟨a, _, k, by rw [e]; rfl, by rw [← e]; exact h1⟩, HF.out.2⟩
def put3 (w : World) (B : Nat) (v0 v1 v2 : Value) : World := ((w.setCell ⟨B, 0, none⟩ v0).setCell ⟨B, 1, none⟩ v1).setCell ⟨B, 2, none⟩ v2
theorem three_put {w : World} {B : Nat} {u0 u1 u2 v0 v1 v2 : Value} (h : Three w B u0 u1 u2) : Three (put3 w B v0 v1 v2) B v0 v1 v2 := by
  have o : ∀ (X : World) (i j : Nat) (v : Value), i ≠ j → (X.setCell ⟨B, i, none⟩ v).cell? ⟨B, j, none⟩ = X.cell? ⟨B, j, none⟩ := fun X i j v hij => World.cell?_setCell_other _ _ _ _ (off_ne hij)
  unfold put3
  refine ⟨?_, ?_, ?_, fun o => by simp only [World.frozen?_setCell]; exact h.fr o, by simpa using h.lt⟩
  · rw [o _ _ _ _ (by omega), o _ _ _ _ (by omega)]; exact World.cell?_setCell_same _ _ _ h.c0
  · rw [o _ _ _ _ (by omega)]; exact World.cell?_setCell_same _ _ _ (by rw [o _ _ _ _ (by omega)]; exact h.c1)
  · exact World.cell?_setCell_same _ _ _ (by rw [o _ _ _ _ (by omega), o _ _ _ _ (by omega)]; exact h.c2)
theorem Below.put3 {w w' : World} {base B : Nat} {v0 v1 v2 : Value} (h : Below base w w') (hB : base ≤ B) : Below base w (put3 w' B v0 v1 v2) :=
  ((h.setCell hB _).setCell hB _).setCell hB _
theorem ownH_put3 {w : World} {base B : Nat} {v : Value} {l : List Hdr} {v0 v1 v2 : Value} (h : OwnH w base v l) (hB : B < base) : OwnH (put3 w B v0 v1 v2) base v l :=
  ownH_set (ownH_set (ownH_set h hB) hB) hB
theorem bown_set {w : World} {base b o : Nat} {v u : Value} {l : List UInt8} (h : BOwn w base v l) (hb : b < base) : BOwn (w.setCell ⟨b, o, none⟩ u) base v l := by
  rcases h with h | ⟨g, k, e, hg, hm⟩
  · exact .inl h
  · refine .inr ⟨g, k, e, hg, fun i c hc => ?_, fun j hj => by rw [World.frozen?_setCell]; exact hm.free j hj, by simpa using hm.lt⟩
    rw [World.cell?_setCell_other _ _ _ _ (fun e => by have := congrArg Addr.block e; simp only at this; omega)]
    exact hm.at0 i c hc
theorem bown_put3 {w : World} {base B : Nat} {v : Value} {l : List UInt8} {v0 v1 v2 : Value} (h : BOwn w base v l) (hB : B < base) : BOwn (put3 w B v0 v1 v2) base v l :=
  bown_set (bown_set (bown_set h hB) hB) hB
theorem bown_put4 {w : World} {base B : Nat} {v : Value} {l : List UInt8} {v0 v1 v2 v3 : Value} (h : BOwn w base v l) (hB : B < base) : BOwn (put4 w B v0 v1 v2 v3) base v l :=
  bown_set (bown_set (bown_set (bown_set h hB) hB) hB) hB
/-- What a call hands back: a code and a response of its own. -/
def PGot (c : Int) (q : Rp) (base : Nat) (e : Ending) (w : World) : Prop := ∃ a n k b bn bk, e = .returned (.agg #[.int .i64 c, .int .i64 q.s, .slice a n k, .slice b bn bk]) ∧ OwnH w base (.slice a n k) q.l ∧ BOwn w base (.slice b bn bk) q.b
theorem PGot.zero (c : Int) (base : Nat) (w : World) : PGot c rp0 base (.returned (.agg #[.int .i64 c, .int .i64 0, .slice none 0 0, .slice none 0 0])) w := ⟨none, 0, 0, none, 0, 0, rfl, OwnH.nil _ _, .inl ⟨rfl, rfl⟩⟩
/-! ### where the head ends -/
theorem cc_on {d : List UInt8} {k : Nat} (hk : k ≤ ccAt d) (h : k + 3 < d.length) : (ccL.isPrefixOf (d.drop k) = true → ccAt d = k) ∧ (ccL.isPrefixOf (d.drop k) = false → k + 1 ≤ ccAt d) := by
  refine ⟨fun e => patAt_of ccL d k (by omega) e (fun j hj => patAt_not ccL d j (Nat.lt_of_lt_of_le hj hk)), fun e => ?_⟩
  by_cases c : k = ccAt d
  · have := patAt_is ccL d (by unfold ccAt at c; omega)
    unfold ccAt at c
    rw [← c, e] at this
    cases this
  · omega
theorem cc_end {d : List UInt8} {k : Nat} (hk : k ≤ ccAt d) (h : ¬ k + 3 < d.length) : ¬ ccAt d < d.length := fun c => by
  have := (ccAt_room c).1
  omega
theorem cc_slice (t : ByteArray) (k : Nat) (h : k + 3 < t.size) : (ccL.isPrefixOf (t.data.toList.drop k)) = decide ((t.extract k (k + 4)).data.toList = [13, 10, 13, 10]) := by
  rw [hext_mk, hmk_list, show k + 4 - k = 4 from by omega, Bool.eq_iff_iff, List.isPrefixOf_iff_prefix, decide_eq_true_eq]
  have hl : 4 ≤ (t.data.toList.drop k).length := by rw [List.length_drop, hsize_list]; omega
  generalize t.data.toList.drop k = l at *
  constructor
  · rintro ⟨q, rfl⟩
    rfl
  · intro e
    exact ⟨l.drop 4, by rw [show ccL = l.take 4 from e.symm, List.take_append_drop]⟩
end Go.Proofs.YtopkidfbkhjaeaaGreatDoor
/-
  Results that hold a response: compared, marked, held.
-/
namespace Go.Proofs.YtopkidfbkhjaeaaGreatDoor
open Go.ChangeShapes Go.WideShapes Go.ChangeAt Go.RowKit
theorem Four.av {v : Value} {W W' : World} {B : Nat} {v0 v1 v2 v3 : Value} (h : Four W B v0 v1 v2 v3) (k : HAV v W W') (hne : v.ownBlock ≠ some B) : Four W' B v0 v1 v2 v3 :=
  h.out ⟨k.size, k.cell, k.frozen⟩ hne
theorem BOwn.av {v u : Value} {W W' : World} {base : Nat} {l : List UInt8} (h : BOwn W base u l) (k : HAV v W W') (hne : ∀ b, u.ownBlock = some b → v.ownBlock ≠ some b) : BOwn W' base u l :=
  h.out ⟨k.size, k.cell, k.frozen⟩ hne
set_option maxHeartbeats 2000000 in
theorem eqResponse_lv (W : World) (s : Int) (a b : Option Addr) (n k ca cb : Nat) (x y : Option Addr) (m q cx cy bx bY : Nat) (l : List Hdr) (t : List UInt8) (hl : l.length ≤ 1048576) (ht : t.length ≤ 1048576) (h1 : HLV W (.slice a n ca) l) (h2 : HLV W (.slice b k cb) l) (h3 : BOwn W bx (.slice x m cx) t) (h4 : BOwn W bY (.slice y q cy) t) :
    Calls Tryz.prog 12 #[.agg #[.int .i64 s, .slice a n ca, .slice x m cx], .agg #[.int .i64 s, .slice b k cb, .slice y q cy]] W fun e w' => e = .returned (.bool true) ∧ Below W.heap.size W w' := by
  obtain ⟨V, hV⟩ : ∃ V, V = (W.alloc (.cells #[.int .i64 s, .slice a n ca, .slice x m cx] 29)).alloc (.cells #[.int .i64 s, .slice b k cb, .slice y q cy] 29) := ⟨_, rfl⟩
  have HV : Hid (V = (W.alloc (.cells #[.int .i64 s, .slice a n ca, .slice x m cx] 29)).alloc (.cells #[.int .i64 s, .slice b k cb, .slice y q cy] 29)) := hV
  have bV : Below W.heap.size W V := by rw [hV]; exact ((Below.refl _ _).alloc (Nat.le_refl _) _).alloc (by simp) _
  have aV : Below (W.heap.size + 1) (W.alloc (.cells #[.int .i64 s, .slice a n ca, .slice x m cx] 29)) V := by rw [hV]; exact (Below.refl _ _).alloc (by simp) _
  have f1 : Three V W.heap.size (.int .i64 s) (.slice a n ca) (.slice x m cx) := (Three.new W (.int .i64 s) (.slice a n ca) (.slice x m cx) 29).keep (by rw [show (W.alloc (.cells #[.int .i64 s, .slice a n ca, .slice x m cx] 29)).heap.size = W.heap.size + 1 from by simp]; exact aV)
  have f2 : Three V (W.heap.size + 1) (.int .i64 s) (.slice b k cb) (.slice y q cy) := by
    have := Three.new (W.alloc (.cells #[.int .i64 s, .slice a n ca, .slice x m cx] 29)) (.int .i64 s) (.slice b k cb) (.slice y q cy) 29
    rw [← hV, show (W.alloc (.cells #[.int .i64 s, .slice a n ca, .slice x m cx] 29)).heap.size = W.heap.size + 1 from by simp] at this
    exact this
  have C := eqHeaderS_lv V _ _ l hl (h1.below bV) (h2.below bV)
  obtain ⟨x1, y1, e1, i1⟩ := h3.shape
  obtain ⟨x2, y2, e2, i2⟩ := h4.shape
  simp only [Value.slice.injEq] at e1 e2
  obtain ⟨rfl, rfl, rfl⟩ := e1
  obtain ⟨rfl, rfl, rfl⟩ := e2
  have HC2 : Hid (∀ X, Below W.heap.size W X → Calls Tryz.prog 51 #[.slice x t.length cx, .slice y t.length cy] X fun e w' => e = .returned (.bool true) ∧ Below X.heap.size X w') := fun X hb => eqByteS_same X _ _ _ _ t ht (i1.keep hb) (i2.keep hb)
  have HB : Hid (Below W.heap.size W V ∧ Three V W.heap.size (.int .i64 s) (.slice a n ca) (.slice x t.length cx) ∧ Three V (W.heap.size + 1) (.int .i64 s) (.slice b k cb) (.slice y t.length cy)) := ⟨bV, f1, f2⟩
  clear bV h1 h2 h3 h4 hV hl i1 i2 aV f1 f2 ht
  generalize t.length = m at *
  go_enter Tryz.func12, Tryz.ntmps12
  go_wp2_with fail
  rw [← HV.out]
  refine C.mono ?_
  rintro e w1 ⟨rfl, hb1⟩
  have KB : Hid (Below W.heap.size W w1) := HB.out.1.trans (hb1.mono HB.out.1.size)
  have C2 := HC2.out w1 KB.out
  obtain ⟨p0, p1, p2, _, _⟩ := HB.out.2.1.keep hb1
  obtain ⟨s0, s1, s2, _, _⟩ := HB.out.2.2.keep hb1
  clear hb1 C HB HV HC2
  go_wp2_with fail
  refine C2.mono ?_
  rintro e w2 ⟨rfl, hb2⟩
  have KC : Hid (Below W.heap.size W w2) := KB.out.trans (hb2.mono KB.out.size)
  clear hb2 C2 KB p0 p1 p2 s0 s1 s2
  go_wp2_with fail
  go_ret
  exact ⟨rfl, KC.out⟩
set_option maxHeartbeats 2000000 in
theorem eqResponseResult_lv (W : World) (c s : Int) (a b : Option Addr) (n k ca cb : Nat) (x y : Option Addr) (m q cx cy bx bY : Nat) (l : List Hdr) (t : List UInt8) (hl : l.length ≤ 1048576) (ht : t.length ≤ 1048576) (h1 : HLV W (.slice a n ca) l) (h2 : HLV W (.slice b k cb) l) (h3 : BOwn W bx (.slice x m cx) t) (h4 : BOwn W bY (.slice y q cy) t) :
    Calls Tryz.prog 11 #[.agg #[.int .i64 c, .int .i64 s, .slice a n ca, .slice x m cx], .agg #[.int .i64 c, .int .i64 s, .slice b k cb, .slice y q cy]] W fun e w' => e = .returned (.bool true) ∧ Below W.heap.size W w' := by
  obtain ⟨V, hV⟩ : ∃ V, V = (W.alloc (.cells #[.int .i64 c, .int .i64 s, .slice a n ca, .slice x m cx] 31)).alloc (.cells #[.int .i64 c, .int .i64 s, .slice b k cb, .slice y q cy] 31) := ⟨_, rfl⟩
  have HV : Hid (V = (W.alloc (.cells #[.int .i64 c, .int .i64 s, .slice a n ca, .slice x m cx] 31)).alloc (.cells #[.int .i64 c, .int .i64 s, .slice b k cb, .slice y q cy] 31)) := hV
  have bV : Below W.heap.size W V := by rw [hV]; exact ((Below.refl _ _).alloc (Nat.le_refl _) _).alloc (by simp) _
  have C := eqResponse_lv V s a b n k ca cb x y m q cx cy bx bY l t hl ht (h1.below bV) (h2.below bV) (h3.keep bV) (h4.keep bV)
  have HB : Hid (Below W.heap.size W V) := bV
  clear bV h1 h2 h3 h4 hV hl ht
  go_enter Tryz.func11, Tryz.ntmps11
  go_wp2_with fail
  rw [← HV.out]
  refine C.mono ?_
  rintro e w1 ⟨rfl, hb1⟩
  have KB : Hid (Below W.heap.size W w1) := HB.out.trans (hb1.mono HB.out.size)
  clear hb1 C HB HV
  go_wp2_with fail
  go_ret
  exact ⟨rfl, KB.out⟩
/-- All that was there, but for the memory of v and of u, is as it was. -/
structure HAV2 (v u : Value) (w w' : World) : Prop where
  size : w.heap.size ≤ w'.heap.size
  cell : ∀ b o, b < w.heap.size → v.ownBlock ≠ some b → u.ownBlock ≠ some b → w'.cell? ⟨b, o, none⟩ = w.cell? ⟨b, o, none⟩
  frozen : ∀ b o, b < w.heap.size → v.ownBlock ≠ some b → u.ownBlock ≠ some b → w'.frozen? ⟨b, o, none⟩ = w.frozen? ⟨b, o, none⟩
theorem HAV2.after {v u : Value} {w V w' : World} (hV : Below w.heap.size w V) (h : HAV2 v u V w') : HAV2 v u w w' :=
  ⟨Nat.le_trans hV.size h.size, fun b o hb hn h2 => by rw [h.cell b o (Nat.lt_of_lt_of_le hb hV.size) hn h2]; exact hV.cell (p := ⟨b, o, none⟩) hb, fun b o hb hn h2 => by rw [h.frozen b o (Nat.lt_of_lt_of_le hb hV.size) hn h2]; exact hV.frozen (p := ⟨b, o, none⟩) hb⟩
theorem HAV2.of {v u : Value} {w w1 w2 : World} (h : HAV v w w1) (k : HAV u w1 w2) : HAV2 v u w w2 :=
  ⟨Nat.le_trans h.size k.size, fun b o hb h1 h2 => by rw [k.cell b o (Nat.lt_of_lt_of_le hb h.size) h2]; exact h.cell b o hb h1, fun b o hb h1 h2 => by rw [k.frozen b o (Nat.lt_of_lt_of_le hb h.size) h2]; exact h.frozen b o hb h1⟩
theorem Four.av2 {v u : Value} {W W' : World} {B : Nat} {v0 v1 v2 v3 : Value} (h : Four W B v0 v1 v2 v3) (k : HAV2 v u W W') (hne : v.ownBlock ≠ some B) (h2 : u.ownBlock ≠ some B) : Four W' B v0 v1 v2 v3 :=
  ⟨by rw [k.cell B 0 h.lt hne h2]; exact h.c0, by rw [k.cell B 1 h.lt hne h2]; exact h.c1, by rw [k.cell B 2 h.lt hne h2]; exact h.c2, by rw [k.cell B 3 h.lt hne h2]; exact h.c3, fun o => by rw [k.frozen B o h.lt hne h2]; exact h.fr o, Nat.lt_of_lt_of_le h.lt k.size⟩
theorem BOwn.av2 {v u x : Value} {W W' : World} {base : Nat} {l : List UInt8} (h : BOwn W base x l) (k : HAV2 v u W W') (hne : ∀ b, x.ownBlock = some b → v.ownBlock ≠ some b) (h2 : ∀ b, x.ownBlock = some b → u.ownBlock ≠ some b) : BOwn W' base x l := by
  rcases h with h | ⟨g, c, rfl, hg, hm⟩
  · exact .inl h
  · have hn := hne g rfl
    have hn2 := h2 g rfl
    exact .inr ⟨g, c, rfl, hg, fun i x hx => by rw [k.cell g _ hm.lt hn hn2]; exact hm.at0 i x hx, fun o ho => by rw [k.frozen g o hm.lt hn hn2]; exact hm.free o ho, Nat.lt_of_lt_of_le hm.lt k.size⟩
theorem HLV.av2 {w w' : World} {v u v1 : Value} {l : List Hdr} (h : HLV w v1 l) (k : HAV2 v u w w') (hne : ∀ b, v1.ownBlock = some b → v.ownBlock ≠ some b) (h2 : ∀ b, v1.ownBlock = some b → u.ownBlock ≠ some b) : HLV w' v1 l := by
  rcases h with h | ⟨g, c, rfl, hg, hi, hf⟩
  · exact .inl h
  · have hn := hne g rfl
    have hn2 := h2 g rfl
    refine .inr ⟨g, c, rfl, Nat.lt_of_lt_of_le hg k.size, ?_, fun o => by rw [k.frozen g o hg hn hn2]; exact hf o⟩
    intro i r hr
    rw [k.cell g _ hg hn hn2, k.cell g _ hg hn hn2]
    exact hi i r hr
/-- Head lines and bytes never lie in one block, but where one of the two is empty. -/
theorem heads_bytes_apart {w : World} {v u : Value} {base : Nat} {l : List Hdr} {t : List UInt8} (h : HLV w v l) (k : BOwn w base u t) : l = [] ∨ t = [] ∨ ∀ b, u.ownBlock = some b → v.ownBlock ≠ some b := by
  rcases h with ⟨_, h⟩ | ⟨g, c, rfl, hg, hi, _⟩
  · exact .inl h
  · rcases k with ⟨_, k⟩ | ⟨g', c', rfl, _, hm⟩
    · exact .inr (.inl k)
    · by_cases e : g' = g
      · subst e
        cases l with
        | nil => exact .inl rfl
        | cons r l =>
          cases t with
          | nil => exact .inr (.inl rfl)
          | cons x t =>
            exfalso
            have h1 := (hi 0 r rfl).1
            have h2 := hm.at0 0 x rfl
            simp only [Nat.add_zero] at h1 h2
            rw [h1] at h2
            cases h2
      · refine .inr (.inr fun b hb hc => e ?_)
        simp only [Value.ownBlock, Option.some.injEq] at hb hc
        omega
set_option maxHeartbeats 2000000 in
theorem markByteS_none (w : World) (a : Option Addr) (c : Nat) (k : Int) :
    Calls Tryz.prog 53 #[.slice a 0 c, .int .i64 k] w fun e w' => e = .returned (.int .i64 k) ∧ w' = w := by
  go_enter Tryz.func53, Tryz.ntmps53
  go_wp2_with fail
  go_loop [1, 5] (fun x i => i = .int .i64 0 ∧ x = .int .i64 k) (fun _ _ => 0)
  case atStart => exact ⟨rfl, rfl⟩
  case round =>
    obtain ⟨rfl, rfl⟩ := hrel
    go_wp2_with fail
    go_ret
    exact ⟨rfl, rfl⟩
set_option maxHeartbeats 2000000 in
theorem heldByteS_none (w : World) (a : Option Addr) (c : Nat) (k : Int) :
    Calls Tryz.prog 100 #[.slice a 0 c, .int .i64 k] w fun e w' => e = .returned (.int .i64 k) ∧ w' = w := by
  go_enter Tryz.func100, Tryz.ntmps100
  go_wp2_with fail
  go_loop [1, 5] (fun x i => i = .int .i64 0 ∧ x = .int .i64 k) (fun _ _ => 0)
  case atStart => exact ⟨rfl, rfl⟩
  case round =>
    obtain ⟨rfl, rfl⟩ := hrel
    go_wp2_with fail
    go_ret
    exact ⟨rfl, rfl⟩
/-- Head lines and bytes marked: what holds behind it. -/
structure MkP (base : Nat) (v : Value) (n : Nat) (u : Value) (m : Nat) (w w' : World) : Prop where
  lv : HLV w' v (mkHL 1 n)
  mb : MarkB w' u (1 + 2 * n) m
  av : HAV2 v u w w'
  low : Below base w w'
theorem MkP.after {base n m : Nat} {v u : Value} {w V w' : World} (hV : Below w.heap.size w V) (hb : base ≤ w.heap.size) (h : MkP base v n u m V w') : MkP base v n u m w w' :=
  ⟨h.lv, h.mb, h.av.after hV, (hV.mono hb).trans h.low⟩
/-- The bytes marked behind the head lines. -/
theorem markB_behind {w W : World} {a b : Option Addr} {n ca m cb base bb : Nat} {l : List Hdr} {t : List UInt8} (hn : n = l.length) (hl : l.length ≤ 1000) (ht : t.length ≤ 1048576) (h0 : HLV w (.slice a n ca) l) (hk : BOwn w bb (.slice b m cb) t) (hbb : base ≤ bb)
    (hw : HLV W (.slice a n ca) (mkHL 1 n)) (hav : HAV (.slice a n ca) w W) (hlow : Below base w W) (hnil : n = 0 → Below w.heap.size w W) :
    Calls Tryz.prog 53 #[.slice b m cb, .int .i64 ((1 + 2 * n : Nat) : Int)] W fun e w' => e = .returned (.int .i64 ((1 + 2 * n + m : Nat) : Int)) ∧ MkP base (.slice a n ca) n (.slice b m cb) m w w' := by
  by_cases hm0 : m = 0
  · subst hm0
    refine (markByteS_none W b cb _).mono ?_
    rintro e w' ⟨rfl, rfl⟩
    exact ⟨rfl, hw, .inl rfl, HAV2.of hav (HAV.below (Below.refl _ _)), hlow⟩
  · have hW : BOwn W bb (.slice b m cb) t := by
      rcases heads_bytes_apart h0 hk with e | e | e
      · exact hk.keep (hnil (by rw [hn, e]; rfl))
      · obtain ⟨x, y, e1, _⟩ := hk.shape
        simp only [Value.slice.injEq] at e1
        exact absurd (by rw [e1.2.1, e]; rfl) hm0
      · exact hk.av hav e
    have hap := heads_bytes_apart hw hW
    rcases hW with ⟨e, _⟩ | ⟨g, c', e, hg, hmm⟩
    · simp only [Value.slice.injEq] at e
      exact absurd e.2.1 hm0
    · simp only [Value.slice.injEq] at e
      obtain ⟨rfl, rfl, rfl⟩ := e
      have C := markByteS_row W g t.length cb (1 + 2 * n) base ht (by omega) (by omega) hmm.lt (fun j hj => ⟨⟨_, by have := hmm.at0 j t[j] (List.getElem?_eq_getElem hj); rwa [Nat.zero_add] at this⟩, hmm.free j hj⟩)
      refine C.mono ?_
      rintro e w' ⟨rfl, h1, h2, h3⟩
      have hv2 : HAV (.slice (some ⟨g, 0, none⟩) t.length cb) W w' := ⟨by rw [h2.size]; exact Nat.le_refl _, fun b o hb hn => h2.cell b o hb hn, fun b o _ _ => h2.frozen b o⟩
      refine ⟨rfl, ?_, h1, HAV2.of hav hv2, hlow.trans h3⟩
      rcases hap with e | e | e
      · rcases hw with hw | ⟨g1, c1, e1, hg1, hi1, hf1⟩
        · exact .inl hw
        · refine .inr ⟨g1, c1, e1, by rw [h2.size]; exact hg1, ?_, fun o => by rw [h2.frozen]; exact hf1 o⟩
          rw [e]
          intro i r hr
          cases hr
      · exact absurd (by rw [e]; rfl) hm0
      · exact hw.av hv2 fun b hb hc => e b hc hb
theorem Three.av {v : Value} {W W' : World} {B : Nat} {v0 v1 v2 : Value} (h : Three W B v0 v1 v2) (k : HAV v W W') (hne : v.ownBlock ≠ some B) : Three W' B v0 v1 v2 :=
  ⟨by rw [k.cell B 0 h.lt hne]; exact h.c0, by rw [k.cell B 1 h.lt hne]; exact h.c1, by rw [k.cell B 2 h.lt hne]; exact h.c2, fun o => by rw [k.frozen B o h.lt hne]; exact h.fr o, Nat.lt_of_lt_of_le h.lt k.size⟩
theorem markHeaderS_lv0 (w : World) (a : Option Addr) (n ca : Nat) (l : List Hdr) (hn : n = l.length) (hl : l.length ≤ 1000) (h : HLV w (.slice a n ca) l) (base : Nat) (hb : ∀ b, (Value.slice a n ca).ownBlock = some b → base ≤ b) (hbs : base ≤ w.heap.size) :
    Calls Tryz.prog 52 #[.slice a n ca, .int .i64 1] w fun e w' => e = .returned (.int .i64 ((1 + 2 * n : Nat) : Int)) ∧ (HLV w' (.slice a n ca) (mkHL 1 n) ∧ HAV (.slice a n ca) w w' ∧ Below base w w' ∧ (n = 0 → Below w.heap.size w w')) := by
  by_cases h0 : n = 0
  · subst h0
    have : l = [] := List.eq_nil_of_length_eq_zero hn.symm
    subst this
    exact (markHeaderS_nil w a ca 1).mono fun e w' ⟨h1, h2⟩ => ⟨h1, h.below h2, .below h2, h2.mono hbs, fun _ => h2⟩
  · have := markHeaderS_lv w (.slice a n ca) l (by omega) h base hb hbs
    rw [← hn] at this
    exact this.mono fun e w' ⟨h1, h2, h3, h4⟩ => ⟨h1, h2, h3, h4, fun e => absurd e h0⟩
set_option maxRecDepth 100000 in
set_option maxHeartbeats 4000000 in
theorem markResponse_lv (w : World) (s : Int) (a : Option Addr) (n ca : Nat) (b : Option Addr) (m cb bb : Nat) (l : List Hdr) (t : List UInt8) (hn : n = l.length) (hl : l.length ≤ 1000) (ht : t.length ≤ 1048576) (hv : HLV w (.slice a n ca) l) (hk : BOwn w bb (.slice b m cb) t) (base : Nat) (hb : ∀ b, (Value.slice a n ca).ownBlock = some b → base ≤ b) (hbb : base ≤ bb) (hbs : base ≤ w.heap.size) (q : Int) (hq : ((1 + 2 * n + m : Nat) : Int) = q) :
    Calls Tryz.prog 13 #[.agg #[.int .i64 s, .slice a n ca, .slice b m cb], .int .i64 1] w fun e w' => e = .returned (.int .i64 q) ∧ MkP base (.slice a n ca) n (.slice b m cb) m w w' := by
  obtain ⟨V, hV⟩ : ∃ V, V = w.alloc (.cells #[.int .i64 s, .slice a n ca, .slice b m cb] 29) := ⟨_, rfl⟩
  have HV : Hid (V = w.alloc (.cells #[.int .i64 s, .slice a n ca, .slice b m cb] 29)) := hV
  have bV : Below w.heap.size w V := by rw [hV]; exact (Below.refl _ _).alloc (Nat.le_refl _) _
  have fV : Three V w.heap.size (.int .i64 s) (.slice a n ca) (.slice b m cb) := by rw [hV]; exact Three.new _ _ _ _ _
  have hne : (Value.slice a n ca).ownBlock ≠ some w.heap.size := fun e => Nat.lt_irrefl _ (hv.block_lt _ e)
  obtain ⟨r, hr⟩ : ∃ r : Int, ((1 + 2 * n : Nat) : Int) = r := ⟨_, rfl⟩
  have C := markHeaderS_lv0 V a n ca l hn hl (hv.below bV) base hb (Nat.le_trans hbs bV.size)
  have HM : Hid (∀ X, HLV X (.slice a n ca) (mkHL 1 n) → HAV (.slice a n ca) V X → Below base V X → (n = 0 → Below V.heap.size V X) → Calls Tryz.prog 53 #[.slice b m cb, .int .i64 r] X fun e w' => e = .returned (.int .i64 q) ∧ MkP base (.slice a n ca) n (.slice b m cb) m w w') := by
    intro X h1 h2 h3 h4
    have := markB_behind hn hl ht (hv.below bV) (hk.keep bV) hbb h1 h2 h3 h4
    rw [hr, hq] at this
    exact this.mono fun e w1 ⟨he, h⟩ => ⟨he, MkP.after bV hbs h⟩
  rw [hr] at C
  have HT : Hid (Three V w.heap.size (.int .i64 s) (.slice a n ca) (.slice b m cb) ∧ (Value.slice a n ca).ownBlock ≠ some w.heap.size) := ⟨fV, hne⟩
  clear bV hV hv hk hn hl ht hb hbb hbs hq fV hne hr
  go_enter Tryz.func13, Tryz.ntmps13
  go_wp2_with fail
  rw [← HV.out]
  refine C.mono ?_
  rintro e w1 ⟨rfl, h1, h2, h3, h4⟩
  have C2 := HM.out w1 h1 h2 h3 h4
  obtain ⟨p0, p1, p2, _, _⟩ := HT.out.1.av h2 HT.out.2
  clear h1 h2 h3 h4 C HM HT HV
  go_wp2_with fail
  refine C2.mono ?_
  rintro e w2 ⟨rfl, hk⟩
  have K : Hid (MkP base (.slice a n ca) n (.slice b m cb) m w w2) := hk
  clear hk C2 p0 p1 p2
  go_wp2_with fail
  go_ret
  exact ⟨rfl, K.out⟩
set_option maxRecDepth 100000 in
set_option maxHeartbeats 2000000 in
theorem markResponseResult_lv (w : World) (c s : Int) (a : Option Addr) (n ca : Nat) (b : Option Addr) (m cb bb : Nat) (l : List Hdr) (t : List UInt8) (hn : n = l.length) (hl : l.length ≤ 1000) (ht : t.length ≤ 1048576) (hv : HLV w (.slice a n ca) l) (hk : BOwn w bb (.slice b m cb) t) (base : Nat) (hb : ∀ b, (Value.slice a n ca).ownBlock = some b → base ≤ b) (hbb : base ≤ bb) (hbs : base ≤ w.heap.size) (q : Int) (hq : ((1 + 2 * n + m : Nat) : Int) = q) :
    Calls Tryz.prog 14 #[.agg #[.int .i64 c, .int .i64 s, .slice a n ca, .slice b m cb], .int .i64 1] w fun e w' => e = .returned (.int .i64 q) ∧ MkP base (.slice a n ca) n (.slice b m cb) m w w' := by
  obtain ⟨V, hV⟩ : ∃ V, V = w.alloc (.cells #[.int .i64 c, .int .i64 s, .slice a n ca, .slice b m cb] 31) := ⟨_, rfl⟩
  have HV : Hid (V = w.alloc (.cells #[.int .i64 c, .int .i64 s, .slice a n ca, .slice b m cb] 31)) := hV
  have bV : Below w.heap.size w V := by rw [hV]; exact (Below.refl _ _).alloc (Nat.le_refl _) _
  have C := markResponse_lv V s a n ca b m cb bb l t hn hl ht (hv.below bV) (hk.keep bV) base hb hbb (Nat.le_trans hbs bV.size) q hq
  have HM : Hid (∀ X, MkP base (.slice a n ca) n (.slice b m cb) m V X → MkP base (.slice a n ca) n (.slice b m cb) m w X) := fun X h => MkP.after bV hbs h
  clear bV hV hv hk hn hl ht hb hbb hbs hq
  go_enter Tryz.func14, Tryz.ntmps14
  go_wp2_with fail
  rw [← HV.out]
  refine C.mono ?_
  rintro e w1 ⟨rfl, hk⟩
  have K : Hid (MkP base (.slice a n ca) n (.slice b m cb) m w w1) := HM.out w1 hk
  clear hk C HV HM
  go_wp2_with fail
  go_ret
  exact ⟨rfl, K.out⟩
theorem heldB_behind {w : World} {b : Option Addr} {m cb k : Nat} (hm : m ≤ 1048576) (hk : k ≤ 10000000) (h : MarkB w (.slice b m cb) k m) :
    Calls Tryz.prog 100 #[.slice b m cb, .int .i64 (k : Int)] w fun e w' => e = .returned (.int .i64 ((k + m : Nat) : Int)) ∧ w' = w := by
  by_cases h0 : m = 0
  · subst h0
    exact heldByteS_none w b cb _
  · rcases h with h | ⟨g, c, e, hg, hc⟩
    · exact absurd h h0
    · simp only [Value.slice.injEq] at e
      obtain ⟨rfl, _, rfl⟩ := e
      exact heldByteS_row w g m cb k hm (by omega) hc
set_option maxHeartbeats 2000000 in
theorem heldResponse_lv (w : World) (s : Int) (a : Option Addr) (n ca : Nat) (b : Option Addr) (m cb : Nat) (hl : n ≤ 1000) (hm : m ≤ 1048576) (hv : HLV w (.slice a n ca) (mkHL 1 n)) (hk : MarkB w (.slice b m cb) (1 + 2 * n) m) (q : Int) (hq : ((1 + 2 * n + m : Nat) : Int) = q) :
    Calls Tryz.prog 54 #[.agg #[.int .i64 s, .slice a n ca, .slice b m cb], .int .i64 1] w fun e w' => e = .returned (.int .i64 q) ∧ Below w.heap.size w w' := by
  obtain ⟨V, hV⟩ : ∃ V, V = w.alloc (.cells #[.int .i64 s, .slice a n ca, .slice b m cb] 29) := ⟨_, rfl⟩
  have HV : Hid (V = w.alloc (.cells #[.int .i64 s, .slice a n ca, .slice b m cb] 29)) := hV
  have bV : Below w.heap.size w V := by rw [hV]; exact (Below.refl _ _).alloc (Nat.le_refl _) _
  have fV : Three V w.heap.size (.int .i64 s) (.slice a n ca) (.slice b m cb) := by rw [hV]; exact Three.new _ _ _ _ _
  have HE := heldHeaderS_lv V (.slice a n ca) n (by omega) (hv.below bV)
  obtain ⟨r, hr⟩ : ∃ r : Int, ((1 + 2 * n : Nat) : Int) = r := ⟨_, rfl⟩
  have HM : Hid (∀ X, Below V.heap.size V X → Calls Tryz.prog 100 #[.slice b m cb, .int .i64 r] X fun e w' => e = .returned (.int .i64 q) ∧ w' = X) := by
    intro X hX
    have := heldB_behind hm (by omega) ((hk.keep bV).keep hX)
    rwa [hr, hq] at this
  have g : ¬ r < 0 := by omega
  have g2 : ¬ q < 0 := by omega
  rw [hr] at HE
  have HT : Hid (Three V w.heap.size (.int .i64 s) (.slice a n ca) (.slice b m cb) ∧ Below w.heap.size w V) := ⟨fV, bV⟩
  clear hv hk hq hr bV fV hl hm hV
  go_enter Tryz.func54, Tryz.ntmps54
  go_wp2_with fail
  rw [← HV.out]
  refine HE.mono ?_
  rintro e w1 ⟨rfl, hb⟩
  have C2 := HM.out w1 hb
  obtain ⟨p0, p1, p2, _, _⟩ := HT.out.1.keep hb
  have KB : Hid (Below w.heap.size w w1) := HT.out.2.trans (hb.mono HT.out.2.size)
  clear hb HE HM HT HV
  go_wp2_with fail
  refine C2.mono ?_
  rintro e w2 ⟨rfl, hw⟩
  obtain rfl := hw.symm
  clear hw C2 p0 p1 p2
  go_wp2_with fail
  go_ret
  exact ⟨rfl, KB.out⟩
set_option maxHeartbeats 2000000 in
theorem heldResponseResult_lv (w : World) (c s : Int) (a : Option Addr) (n ca : Nat) (b : Option Addr) (m cb : Nat) (hl : n ≤ 1000) (hm : m ≤ 1048576) (hv : HLV w (.slice a n ca) (mkHL 1 n)) (hk : MarkB w (.slice b m cb) (1 + 2 * n) m) (q : Int) (hq : ((1 + 2 * n + m : Nat) : Int) = q) :
    Calls Tryz.prog 15 #[.agg #[.int .i64 c, .int .i64 s, .slice a n ca, .slice b m cb], .int .i64 1] w fun e w' => e = .returned (.int .i64 q) ∧ Below w.heap.size w w' := by
  have bV : Below w.heap.size w (w.alloc (.cells #[.int .i64 c, .int .i64 s, .slice a n ca, .slice b m cb] 31)) := (Below.refl _ _).alloc (Nat.le_refl _) _
  have HE := heldResponse_lv (w.alloc (.cells #[.int .i64 c, .int .i64 s, .slice a n ca, .slice b m cb] 31)) s a n ca b m cb hl hm (hv.below bV) (hk.keep bV) q hq
  have g : ¬ q < 0 := by omega
  clear hv hk hq bV hl hm
  go_enter Tryz.func15, Tryz.ntmps15
  go_wp2_with fail
  refine HE.mono ?_
  rintro e w1 ⟨rfl, hb⟩
  have KB : Hid (Below w.heap.size w w1) := ((Below.refl _ _).alloc (Nat.le_refl _) _).trans (hb.mono (by simp))
  clear hb HE
  go_wp2_with fail
  go_ret
  exact ⟨rfl, KB.out⟩
end Go.Proofs.YtopkidfbkhjaeaaGreatDoor
/-
  Responses as arguments of laws, and as what they answer.
-/
namespace Go.Proofs.YtopkidfbkhjaeaaGreatDoor
open Go.ChangeShapes Go.WideShapes Go.ChangeAt Go.RowKit Go.Sort
def CResp (l : List Hdr) (bl : List UInt8) (K D lo hi : Nat) (X : World) : Prop := QM K l lo hi X ∧ BM D bl lo hi X ∧ K < D
theorem CResp.dep (l : List Hdr) (bl : List UInt8) (K D lo hi : Nat) : Dep lo hi (CResp l bl K D lo hi) := fun X X' h1 h2 hc k =>
  ⟨QM.dep _ _ _ _ X X' h1 h2 hc k.1, BM.dep _ _ _ _ X X' h1 h2 hc k.2.1, k.2.2⟩
theorem respT (w : World) (s : Int) (a : Option Addr) (cap : Nat) (l : List Hdr) (b : Option Addr) (bc : Nat) (bl : List UInt8) (hl : l.length ≤ 1048576) (hbl : bl.length ≤ 1048576) (hi : HdsIn w a l) (hib : BIn w b bl) (X : World) (hX : Below w.heap.size w X) :
    Calls Tryz.prog 9 #[.agg #[.int .i64 s, .slice a l.length cap, .slice b bl.length bc]] X fun e w' => (∃ (K : Nat) (D : Nat), e = .returned (.agg #[.int .i64 s, .slice (some ⟨K, 0, none⟩) l.length l.length, .slice (some ⟨D, 0, none⟩) bl.length bl.length]) ∧ At X.heap.size w'.heap.size (CResp l bl K D) w') ∧ Below X.heap.size X w' :=
  (toResponse_any X s a cap l b bc bl hl hbl (hi.keep hX) (hib.keep hX)).mono fun _ _ ⟨⟨B, h1, h2, h3, h4⟩, h5⟩ =>
    ⟨⟨_, B, h1, Nat.le_refl _, CResp.dep _ _ _ _ _ _, ⟨h2, by omega, h2.lt⟩, ⟨h3, by omega, h3.lt⟩, h4⟩, h5⟩
theorem respQ (s : Int) (l : List Hdr) (bl : List UInt8) (hl : l.length ≤ 1048576) (hbl : bl.length ≤ 1048576) (X : World) (la ha lb hb Kx Dx Ky Dy : Nat) (c : At la ha (CResp l bl Kx Dx) X) (d : At lb hb (CResp l bl Ky Dy) X) :
    Calls Tryz.prog 12 #[.agg #[.int .i64 s, .slice (some ⟨Kx, 0, none⟩) l.length l.length, .slice (some ⟨Dx, 0, none⟩) bl.length bl.length], .agg #[.int .i64 s, .slice (some ⟨Ky, 0, none⟩) l.length l.length, .slice (some ⟨Dy, 0, none⟩) bl.length bl.length]] X fun e w' => e = .returned (.bool true) ∧ Below X.heap.size X w' :=
  eqResponse_same X s _ _ l _ _ bl hl hbl c.val.1.1.at0 d.val.1.1.at0 c.val.2.1.1 d.val.2.1.1
theorem respM (s : Int) (l : List Hdr) (bl : List UInt8) (hl : l.length ≤ 1048576) (hbl : bl.length ≤ 1048576) (k : Nat) (hk0 : 1 ≤ k) (hk : k ≤ 10000000000000) (base : Nat) (X : World) (lo hi K D : Nat) (c : At lo hi (CResp l bl K D) X) (hb : base ≤ lo) :
    Calls Tryz.prog 13 #[.agg #[.int .i64 s, .slice (some ⟨K, 0, none⟩) l.length l.length, .slice (some ⟨D, 0, none⟩) bl.length bl.length], .int .i64 (k : Int)] X fun e w' => e = .returned (.int .i64 ((k + 2 * l.length + bl.length : Nat) : Int)) ∧ Wi lo hi X w' ∧ Below base X w' :=
  markResponse_k X s K l D bl k lo hi base hk0 hk hl c.val.1.1.at hbl c.val.2.1.1.at c.val.2.2 c.val.1.2.1 c.val.2.1.2.2 hb
/-- Marked. -/
def MRR (L : List Hdr) (T : List UInt8) (ra : Option Addr) (rn rk : Nat) (rb : Option Addr) (rm rl : Nat) (lo hi : Nat) (X : World) : Prop :=
  rn = L.length ∧ rm = T.length ∧ HL (.slice ra rn rk) (mkHL 1 rn) lo hi X ∧ MB (.slice rb rm rl) (1 + 2 * rn) rm lo hi X
theorem MRR.dep (L : List Hdr) (T : List UInt8) (ra : Option Addr) (rn rk : Nat) (rb : Option Addr) (rm rl lo hi : Nat) : Dep lo hi (MRR L T ra rn rk rb rm rl lo hi) := fun X X' h1 h2 hc k =>
  ⟨k.1, k.2.1, HL.dep _ _ _ _ X X' h1 h2 hc k.2.2.1, MB.dep _ _ _ _ _ X X' h1 h2 hc k.2.2.2⟩
theorem BL.bown {v : Value} {l : List UInt8} {lo hi : Nat} {X : World} (k : BL v l lo hi X) : BOwn X lo v l := by
  rcases k.1 with e | ⟨g, c, rfl, hg, h, hf⟩
  · exact .inl e
  · exact .inr ⟨g, c, rfl, (k.2 g rfl).1, h, fun o _ => hf o, hg⟩
theorem rrQ (c s : Int) (L : List Hdr) (T : List UInt8) (hL : L.length ≤ 1048576) (hT : T.length ≤ 1048576) (X : World) (la ha lb hb : Nat) (xa : Option Addr) (xn xk : Nat) (xb : Option Addr) (xm xl : Nat) (ya : Option Addr) (yn yk : Nat) (yb : Option Addr) (ym yl : Nat) (p : At la ha (RR L T xa xn xk xb xm xl) X) (q : At lb hb (RR L T ya yn yk yb ym yl) X) :
    Calls Tryz.prog 11 #[.agg #[.int .i64 c, .int .i64 s, .slice xa xn xk, .slice xb xm xl], .agg #[.int .i64 c, .int .i64 s, .slice ya yn yk, .slice yb ym yl]] X fun e w' => e = .returned (.bool true) ∧ Below X.heap.size X w' :=
  eqResponseResult_lv X c s xa ya xn yn xk yk xb yb xm ym xl yl la lb L T hL hT p.val.2.2.1.1 q.val.2.2.1.1 p.val.2.2.2.1.bown q.val.2.2.2.1.bown
theorem rrM (c s : Int) (L : List Hdr) (T : List UInt8) (hL : L.length ≤ 1000) (hT : T.length ≤ 1048576) (base : Nat) (X : World) (lo hi : Nat) (ra : Option Addr) (rn rk : Nat) (rb : Option Addr) (rm rl : Nat) (p : At lo hi (RR L T ra rn rk rb rm rl) X) (hb : base ≤ lo) (hbX : base ≤ X.heap.size) :
    Calls Tryz.prog 14 #[.agg #[.int .i64 c, .int .i64 s, .slice ra rn rk, .slice rb rm rl], .int .i64 1] X fun e w' => e = .returned (.int .i64 ((1 + 2 * L.length + T.length : Nat) : Int)) ∧ At lo hi (MRR L T ra rn rk rb rm rl) w' ∧ Wi lo hi X w' ∧ Below base X w' := by
  obtain ⟨e1, e2, h1, h2, h3⟩ := p.val
  subst e1
  subst e2
  refine (markResponseResult_lv X c s ra _ rk rb _ rl lo L T rfl hL hT h1.1 h2.bown base (fun b hb' => Nat.le_trans hb (h1.2 b hb').1) hb hbX _ rfl).mono ?_
  rintro e w' ⟨h4, h5⟩
  have g : Wi lo hi X w' := ⟨h5.av.size, fun b o h6 h7 => h5.av.cell b o h6 (fun q => by have := h1.2 b q; omega) (fun q => by have := h2.2 b q; omega), fun b o h6 h7 => h5.av.frozen b o h6 (fun q => by have := h1.2 b q; omega) (fun q => by have := h2.2 b q; omega)⟩
  exact ⟨h4, ⟨Nat.le_trans p.le g.size, MRR.dep _ _ _ _ _ _ _ _ _ _, rfl, rfl, ⟨h5.lv, h1.2⟩, ⟨h5.mb, h2.2⟩⟩, g, h5.low⟩
theorem rrH (c s : Int) (L : List Hdr) (T : List UInt8) (hL : L.length ≤ 1000) (hT : T.length ≤ 1048576) (X : World) (lo hi : Nat) (ra : Option Addr) (rn rk : Nat) (rb : Option Addr) (rm rl : Nat) (p : At lo hi (MRR L T ra rn rk rb rm rl) X) :
    Calls Tryz.prog 15 #[.agg #[.int .i64 c, .int .i64 s, .slice ra rn rk, .slice rb rm rl], .int .i64 1] X fun e w' => e = .returned (.int .i64 ((1 + 2 * L.length + T.length : Nat) : Int)) ∧ Below X.heap.size X w' := by
  obtain ⟨e1, e2, h1, h2⟩ := p.val
  subst e1
  subst e2
  exact heldResponseResult_lv X c s ra _ rk rb _ rl hL hT h1.1 h2.1 _ rfl
end Go.Proofs.YtopkidfbkhjaeaaGreatDoor
/-
  RelayOf, by the model.
-/
namespace Go.Proofs.YtopkidfbkhjaeaaGreatDoor
open Go.ChangeShapes Go.WideShapes Go.ChangeAt Go.RowKit Go.Sort
def cacheN : ByteArray := ⟨#[88, 45, 67, 97, 99, 104, 101]⟩
def missV : ByteArray := ⟨#[109, 105, 115, 115]⟩
/-- The lines of a response that goes through. -/
def relayL (l : List Hdr) : List Hdr := if 20 < (setGo ⟨cacheN, missV⟩ false l).length then l else setGo ⟨cacheN, missV⟩ false l
theorem relayL_len {l : List Hdr} (h : l.length ≤ 20) : (relayL l).length ≤ 20 := by
  unfold relayL
  split <;> omega
set_option maxRecDepth 100000 in
set_option maxHeartbeats 8000000 in
theorem l13Relay_any (w : World) (B : Nat) (s : Int) (a : Option Addr) (cap : Nat) (l : List Hdr) (b : Option Addr) (bc : Nat) (bl : List UInt8) (hd : Bool) (h20 : l.length ≤ 20) (hz : ∀ (i : Nat) r, l[i]? = some r → r.name.size ≤ 64) (hbl : bl.length ≤ 1048576) (hi : HdsIn w a l) (hib : BIn w b bl) (bx : At B (B + 1) (Bx B [.int .i64 s, .slice a l.length cap, .slice b bl.length bc]) w) :
    Calls Tryz.prog 43 #[.pointer (some ⟨B, 0, none⟩), .bool hd] w fun e w' => (∃ ra rk rb rl, e = .returned (.agg #[.int .i64 s, .slice ra (relayL l).length rk, .slice rb (bodyL hd bl).length rl]) ∧ At w.heap.size w'.heap.size (RR (relayL l) (bodyL hd bl) ra (relayL l).length rk rb (bodyL hd bl).length rl) w') ∧ Below w.heap.size w w' := by
  obtain ⟨W, hW⟩ : ∃ W, W = w.alloc (.cells #[.int .i64 0, .slice none 0 0, .slice none 0 0] 29) := ⟨_, rfl⟩
  have HW : Hid (W = w.alloc (.cells #[.int .i64 0, .slice none 0 0, .slice none 0 0] 29)) := hW
  have bW : Below w.heap.size w W := by rw [hW]; exact (Below.refl _ _).alloc (Nat.le_refl _) _
  have hWs : w.heap.size + 1 ≤ W.heap.size := by rw [hW]; simp
  have HP : Hid (∀ X, Below w.heap.size w X → HdsIn X a l ∧ BIn X b bl ∧ At B (B + 1) (Bx B [.int .i64 s, .slice a l.length cap, .slice b bl.length bc]) X) := fun X hX => ⟨hi.keep hX, hib.keep hX, bx.keep hX⟩
  have KW : Hid (Below w.heap.size w W ∧ w.heap.size + 1 ≤ W.heap.size ∧ At w.heap.size (w.heap.size + 1) (Bx w.heap.size [.int .i64 0, .slice none 0 0, .slice none 0 0]) W ∧ B < w.heap.size) := ⟨bW, hWs, by rw [hW]; exact Bx.new _ _ _, bx.le⟩
  have CS : Hid (∀ X, Below w.heap.size w X → Calls Tryz.prog 87 #[.slice a l.length cap, .agg #[.string cacheN, .string missV]] X fun e w' => (∃ va vc, e = .returned (.slice va (setGo ⟨cacheN, missV⟩ false l).length vc) ∧ At X.heap.size w'.heap.size (HL (.slice va (setGo ⟨cacheN, missV⟩ false l).length vc) (setGo ⟨cacheN, missV⟩ false l)) w') ∧ Below X.heap.size X w') := fun X hX => (l4Set_any X a cap l ⟨cacheN, missV⟩ (by omega) hz (by decide) (hi.keep hX)).mono fun e w' ⟨⟨v, h1, h2⟩, h3⟩ => by
    obtain ⟨va, vc, rfl, _⟩ := row_form h2
    exact ⟨⟨va, vc, h1, RowH.at h2⟩, h3⟩
  have CC : Hid (∀ X, Below w.heap.size w X → Calls Tryz.prog 88 #[.slice a l.length cap] X fun e w' => (∃ va vc, e = .returned (.slice va l.length vc) ∧ At X.heap.size w'.heap.size (HL (.slice va l.length vc) l) w') ∧ Below X.heap.size X w') := fun X hX => (l4Copy_in X a cap l (by omega) (hi.keep hX)).mono fun e w' ⟨⟨v, h1, h2⟩, h3⟩ => by
    obtain ⟨va, vc, rfl, _⟩ := row_form h2
    exact ⟨⟨va, vc, h1, RowH.at h2⟩, h3⟩
  have CB : Hid (∀ X, Below w.heap.size w X → Calls Tryz.prog 89 #[.slice b bl.length bc, .bool hd] X fun e w' => (∃ b k, e = .returned (.slice b (bodyL hd bl).length k) ∧ At X.heap.size w'.heap.size (BL (.slice b (bodyL hd bl).length k) (bodyL hd bl)) w') ∧ Below X.heap.size X w') := fun X hX => specBody_any X b bc bl hd hbl (hib.keep hX)
  have HLN : Hid ((setGo ⟨cacheN, missV⟩ false l).length ≤ 1000) := by
    show _ ≤ _
    rw [setGo_len]
    have := dropH_len (lowS cacheN) l
    cases firstAt (lowS (Hdr.mk cacheN missV).name) l <;> simp only <;> omega
  have HR1 : Hid (20 < (setGo ⟨cacheN, missV⟩ false l).length → relayL l = l) := fun h => by unfold relayL; rw [if_pos h]
  have HR2 : Hid (¬ 20 < (setGo ⟨cacheN, missV⟩ false l).length → relayL l = setGo ⟨cacheN, missV⟩ false l) := fun h => by unfold relayL; rw [if_neg h]
  clear hW bW hWs hi hib bx hz hbl h20
  generalize setGo ⟨cacheN, missV⟩ false l = M at *
  generalize relayL l = RL at *
  generalize bodyL hd bl = BL0 at *
  generalize hbn : bl.length = bn at *
  clear hbn
  have p0 : (W.cell? ⟨B, 1, none⟩) = some (.slice a l.length cap) := (HP.out W KW.out.1).2.2.val.1 1 _ rfl
  rw [HW.out] at p0
  go_enter Tryz.func43, Tryz.ntmps43
  go_wp2_with fail
  rw [← HW.out]
  refine (CS.out W KW.out.1).mono ?_
  rintro e w1 ⟨⟨va, vc, rfl, c1⟩, hb1⟩
  clear HW p0 CS
  have K1 : Hid (Below W.heap.size W w1 ∧ Below w.heap.size w w1 ∧ At w.heap.size (w.heap.size + 1) (Bx w.heap.size [.int .i64 0, .slice none 0 0, .slice none 0 0]) w1 ∧ At W.heap.size w1.heap.size (HL (.slice va M.length vc) M) w1) := ⟨hb1, KW.out.1.trans (hb1.mono KW.out.1.size), KW.out.2.2.1.keep hb1, c1⟩
  clear c1 hb1
  have q1 : w1.cell? ⟨B, 1, none⟩ = some (.slice a l.length cap) := (HP.out w1 K1.out.2.1).2.2.val.1 1 _ rfl
  have gl := HLN.out
  by_cases hgt : 20 < M.length
  · have gi : (20 : Int) < (M.length : Int) := by omega
    have hrl := HR1.out hgt
    have HRL : Hid (RL = l) := hrl
    clear hrl hgt HR1 HR2 HLN gl
    generalize M.length = mn at *
    go_wp2_with fail
    refine (CC.out w1 K1.out.2.1).mono ?_
    rintro e w2 ⟨⟨vb, vd, rfl, c2⟩, hb2⟩
    have K2 : Hid (Below w.heap.size w w2 ∧ At w.heap.size (w.heap.size + 1) (Bx w.heap.size [.int .i64 0, .slice none 0 0, .slice none 0 0]) w2 ∧ At w1.heap.size w2.heap.size (HL (.slice vb l.length vd) l) w2 ∧ w.heap.size + 1 ≤ w1.heap.size) := ⟨K1.out.2.1.trans (hb2.mono K1.out.2.1.size), K1.out.2.2.1.keep hb2, c2, K1.out.2.2.1.le⟩
    clear c2 hb2 K1 CC q1 gi
    obtain ⟨y1, hy1⟩ : ∃ y, w1.heap.size = y := ⟨_, rfl⟩
    rw [hy1] at K2
    clear hy1
    try clear w1
    have HB : Hid (B < w.heap.size) := KW.out.2.2.2
    have HKS : Hid (∀ X, Below w2.heap.size w2 X → X.cell? ⟨B, 0, none⟩ = some (.int .i64 s) ∧ X.cell? ⟨B, 2, none⟩ = some (.slice b bn bc)) := fun X hX => ⟨(HP.out X (K2.out.1.trans (hX.mono K2.out.1.size))).2.2.val.1 0 _ rfl, (HP.out X (K2.out.1.trans (hX.mono K2.out.1.size))).2.2.val.1 2 _ rfl⟩
    have B0 : Hid (Below w2.heap.size w2 w2.drew) := (Below.refl _ _).drew
    go_upto_region 4 with fail
    go_region_held3 (fun X => X.cell? ⟨B, 0, none⟩ = some (.int .i64 s) ∧ X.cell? ⟨B, 2, none⟩ = some (.slice b bn bc))
      (first | (with_reducible exact SF.out) | ((with_reducible refine HKS.out _ ?_); (with_reducible exact BB.out)) | ((with_reducible refine HKS.out _ ?_); (with_reducible exact B0.out)))
      (first
      | (go_at_call 89; (with_reducible refine (CB.out w2.drew (K2.out.1.trans (B0.out.mono K2.out.1.size))).mono ?_); rintro e0 w5 ⟨⟨b5, k5, rfl, cb⟩, hb⟩; have BB : Hid (Below w2.heap.size w2 w5) := B0.out.trans (hb.mono B0.out.size); have CB5 : Hid (At w2.heap.size w5.heap.size (BL (.slice b5 BL0.length k5) BL0) w5) := cb; have KB := K2.out.2.1.keep BB.out; have z0 := KB.val.1 0 _ rfl; have z1 := KB.val.1 1 _ rfl; have z2 := KB.val.1 2 _ rfl; have zf0 := KB.val.2 0; have zf1 := KB.val.2 1; have zf2 := KB.val.2 2; have SF : Hid ((((w5.setCell ⟨w.heap.size, 0, none⟩ (.int .i64 s)).setCell ⟨w.heap.size, 1, none⟩ (.slice vb l.length vd)).setCell ⟨w.heap.size, 2, none⟩ (.slice b5 BL0.length k5)).cell? ⟨B, 0, none⟩ = some (.int .i64 s) ∧ (((w5.setCell ⟨w.heap.size, 0, none⟩ (.int .i64 s)).setCell ⟨w.heap.size, 1, none⟩ (.slice vb l.length vd)).setCell ⟨w.heap.size, 2, none⟩ (.slice b5 BL0.length k5)).cell? ⟨B, 2, none⟩ = some (.slice b bn bc)) := (by have ne : ∀ (i o : Nat), (⟨w.heap.size, i, none⟩ : Addr) ≠ ⟨B, o, none⟩ := fun i o q => (by have := congrArg Addr.block q; have := HB.out; simp only at *; omega); rw [World.cell?_setCell_other _ _ _ _ (ne _ _), World.cell?_setCell_other _ _ _ _ (ne _ _), World.cell?_setCell_other _ _ _ _ (ne _ _), World.cell?_setCell_other _ _ _ _ (ne _ _), World.cell?_setCell_other _ _ _ _ (ne _ _), World.cell?_setCell_other _ _ _ _ (ne _ _)]; exact HKS.out _ BB.out); clear hb cb KB))
    have HF : Hid (At w.heap.size w5.heap.size (RR l BL0 vb l.length vd b5 BL0.length k5) (((w5.setCell ⟨w.heap.size, 0, none⟩ (.int .i64 s)).setCell ⟨w.heap.size, 1, none⟩ (.slice vb l.length vd)).setCell ⟨w.heap.size, 2, none⟩ (.slice b5 BL0.length k5)) ∧ Below w.heap.size w (((w5.setCell ⟨w.heap.size, 0, none⟩ (.int .i64 s)).setCell ⟨w.heap.size, 1, none⟩ (.slice vb l.length vd)).setCell ⟨w.heap.size, 2, none⟩ (.slice b5 BL0.length k5))) := by
      have c1 := K2.out.2.2.1.keep BB.out
      have c2 := CB5.out
      have hy := K2.out.2.2.2
      have ho := K2.out.2.2.1.le
      have e1 := c1.le
      have hbs := CB5.out.le
      have bb := K2.out.1.trans (BB.out.mono K2.out.1.size)
      have s1 := BB.out.size
      have hx := K2.out.2.1.le
      exact ⟨RR.of (((c1.set _ (.inl (by omega))).set _ (.inl (by omega))).set _ (.inl (by omega))) (((c2.set _ (.inl (by omega))).set _ (.inl (by omega))).set _ (.inl (by omega))) (.inl ho) (by omega) (by omega) (by omega) (Nat.le_refl _) (by simp), ((bb.setCell (Nat.le_refl _) _).setCell (Nat.le_refl _) _).setCell (Nat.le_refl _) _⟩
    clear HKS B0 BB CB5 K2 HP CB
    go_wp2_with fail
    exact bodyPost_ret (v := .agg #[.int .i64 s, .slice vb l.length vd, .slice b5 BL0.length k5]) (by simp [results, Tryz.results43, go_sem, z0, z1, z2]) rfl ⟨⟨vb, vd, b5, k5, by rw [HRL.out], by rw [HRL.out]; simpa using HF.out.1⟩, HF.out.2⟩
  · have gi : ¬ (20 : Int) < (M.length : Int) := by omega
    have hrl := HR2.out hgt
    have HRL : Hid (RL = M) := hrl
    have K2 : Hid (Below w.heap.size w w1 ∧ At w.heap.size (w.heap.size + 1) (Bx w.heap.size [.int .i64 0, .slice none 0 0, .slice none 0 0]) w1 ∧ At W.heap.size w1.heap.size (HL (.slice va M.length vc) M) w1 ∧ w.heap.size + 1 ≤ W.heap.size) := ⟨K1.out.2.1, K1.out.2.2.1, K1.out.2.2.2, KW.out.2.1⟩
    clear hrl hgt HR1 HR2 HLN gl K1 CC q1
    obtain ⟨y1, hy1⟩ : ∃ y, W.heap.size = y := ⟨_, rfl⟩
    rw [hy1] at K2
    clear hy1
    have HB : Hid (B < w.heap.size) := KW.out.2.2.2
    have HKS : Hid (∀ X, Below w1.heap.size w1 X → X.cell? ⟨B, 0, none⟩ = some (.int .i64 s) ∧ X.cell? ⟨B, 2, none⟩ = some (.slice b bn bc)) := fun X hX => ⟨(HP.out X (K2.out.1.trans (hX.mono K2.out.1.size))).2.2.val.1 0 _ rfl, (HP.out X (K2.out.1.trans (hX.mono K2.out.1.size))).2.2.val.1 2 _ rfl⟩
    have B0 : Hid (Below w1.heap.size w1 w1.drew) := (Below.refl _ _).drew
    go_upto_region 4 with fail
    clear gi
    go_region_held3 (fun X => X.cell? ⟨B, 0, none⟩ = some (.int .i64 s) ∧ X.cell? ⟨B, 2, none⟩ = some (.slice b bn bc))
      (first | (with_reducible exact SF.out) | ((with_reducible refine HKS.out _ ?_); (with_reducible exact BB.out)) | ((with_reducible refine HKS.out _ ?_); (with_reducible exact B0.out)))
      (first
      | (go_at_call 89; (with_reducible refine (CB.out w1.drew (K2.out.1.trans (B0.out.mono K2.out.1.size))).mono ?_); rintro e0 w5 ⟨⟨b5, k5, rfl, cb⟩, hb⟩; have BB : Hid (Below w1.heap.size w1 w5) := B0.out.trans (hb.mono B0.out.size); have CB5 : Hid (At w1.heap.size w5.heap.size (BL (.slice b5 BL0.length k5) BL0) w5) := cb; have KB := K2.out.2.1.keep BB.out; have z0 := KB.val.1 0 _ rfl; have z1 := KB.val.1 1 _ rfl; have z2 := KB.val.1 2 _ rfl; have zf0 := KB.val.2 0; have zf1 := KB.val.2 1; have zf2 := KB.val.2 2; have SF : Hid ((((w5.setCell ⟨w.heap.size, 0, none⟩ (.int .i64 s)).setCell ⟨w.heap.size, 1, none⟩ (.slice va M.length vc)).setCell ⟨w.heap.size, 2, none⟩ (.slice b5 BL0.length k5)).cell? ⟨B, 0, none⟩ = some (.int .i64 s) ∧ (((w5.setCell ⟨w.heap.size, 0, none⟩ (.int .i64 s)).setCell ⟨w.heap.size, 1, none⟩ (.slice va M.length vc)).setCell ⟨w.heap.size, 2, none⟩ (.slice b5 BL0.length k5)).cell? ⟨B, 2, none⟩ = some (.slice b bn bc)) := (by have ne : ∀ (i o : Nat), (⟨w.heap.size, i, none⟩ : Addr) ≠ ⟨B, o, none⟩ := fun i o q => (by have := congrArg Addr.block q; have := HB.out; simp only at *; omega); rw [World.cell?_setCell_other _ _ _ _ (ne _ _), World.cell?_setCell_other _ _ _ _ (ne _ _), World.cell?_setCell_other _ _ _ _ (ne _ _), World.cell?_setCell_other _ _ _ _ (ne _ _), World.cell?_setCell_other _ _ _ _ (ne _ _), World.cell?_setCell_other _ _ _ _ (ne _ _)]; exact HKS.out _ BB.out); clear hb cb KB))
    have HF : Hid (At w.heap.size w5.heap.size (RR M BL0 va M.length vc b5 BL0.length k5) (((w5.setCell ⟨w.heap.size, 0, none⟩ (.int .i64 s)).setCell ⟨w.heap.size, 1, none⟩ (.slice va M.length vc)).setCell ⟨w.heap.size, 2, none⟩ (.slice b5 BL0.length k5)) ∧ Below w.heap.size w (((w5.setCell ⟨w.heap.size, 0, none⟩ (.int .i64 s)).setCell ⟨w.heap.size, 1, none⟩ (.slice va M.length vc)).setCell ⟨w.heap.size, 2, none⟩ (.slice b5 BL0.length k5))) := by
      have c1 := K2.out.2.2.1.keep BB.out
      have c2 := CB5.out
      have hy := K2.out.2.2.2
      have ho := K2.out.2.2.1.le
      have e1 := c1.le
      have hbs := CB5.out.le
      have bb := K2.out.1.trans (BB.out.mono K2.out.1.size)
      have s1 := BB.out.size
      have hx := K2.out.2.1.le
      exact ⟨RR.of (((c1.set _ (.inl (by omega))).set _ (.inl (by omega))).set _ (.inl (by omega))) (((c2.set _ (.inl (by omega))).set _ (.inl (by omega))).set _ (.inl (by omega))) (.inl ho) (by omega) (by omega) (by omega) (Nat.le_refl _) (by simp), ((bb.setCell (Nat.le_refl _) _).setCell (Nat.le_refl _) _).setCell (Nat.le_refl _) _⟩
    clear HKS B0 BB CB5 K2 HP CB
    go_wp2_with fail
    exact bodyPost_ret (v := .agg #[.int .i64 s, .slice va M.length vc, .slice b5 BL0.length k5]) (by simp [results, Tryz.results43, go_sem, z0, z1, z2]) rfl ⟨⟨va, vc, b5, k5, by rw [HRL.out], by rw [HRL.out]; simpa using HF.out.1⟩, HF.out.2⟩
end Go.Proofs.YtopkidfbkhjaeaaGreatDoor
/-
  Head lines that are copied, by the program.
-/
namespace Go.Proofs.YtopkidfbkhjaeaaGreatDoor
open Go.ChangeShapes Go.WideShapes Go.ChangeAt Go.RowKit Go.Sort
set_option maxRecDepth 100000 in
set_option maxHeartbeats 4000000 in
theorem linesAnew_any (w : World) (a : Option Addr) (cap : Nat) (l : List Hdr) (hl : l.length ≤ 1048576) (hs : ∀ r ∈ l, r.name.size ≤ 1048576 ∧ r.value.size ≤ 1048576) (hi : HdsIn w a l) :
    Calls Tryz.prog 47 #[.slice a l.length cap] w fun e w' => (∃ v, e = .returned v ∧ RowH w' w.heap.size v l) ∧ Below w.heap.size w w' := by
  have HI : Hid (HdsIn w a l) := hi
  have HSM : Hid (∀ r ∈ l, r.name.size ≤ 1048576 ∧ r.value.size ≤ 1048576) := hs
  obtain ⟨i0, hi0, hz0, hz1, hz2⟩ := info_parts cHeadI
  clear hi hs
  generalize hn : l.length = n at *
  have HN : Hid (l.length = n) := hn
  clear hn
  go_enter Tryz.func47, Tryz.ntmps47
  go_wp2_with fail
  go_loopw [3, 8] (fun v i wr => ∃ k : Nat, k ≤ n ∧ i = .int .i64 k ∧ wr.ownsRow w.heap.size 108 2 v k (hdrsW (l.take k)) ∧ Below w.heap.size w wr) (fun _ i _ => n - (intOf i).toNat)
  case atStart => exact ⟨0, Nat.zero_le _, rfl, World.ownsRow_nil _ _ _ _, Below.refl _ _⟩
  case round =>
    obtain ⟨k, hk, rfl, hrow, hb⟩ := hrel
    obtain ⟨va, vc, rfl, _⟩ := row_form hrow
    by_cases hlt : k < n
    · obtain ⟨r, hr⟩ : ∃ r, l[k]? = some r := ⟨l[k]'(by have := HN.out; omega), List.getElem?_eq_getElem _⟩
      rcases HI.out with e | ⟨b', off', er, hat⟩
      · rw [e] at hr; simp at hr
      obtain ⟨p0, p1⟩ := (hat.keep hb) k r hr
      have sm := HSM.out r (List.mem_of_getElem? hr)
      rw [er]
      have g : (k : Int) < n := by omega
      have g0 : (0 : Int) ≤ k := by omega
      obtain ⟨W2, hW2⟩ : ∃ W2, W2 = wr.alloc (.cells #[.string r.name, .string r.value] 108) := ⟨_, rfl⟩
      have HW2 : Hid (W2 = wr.alloc (.cells #[.string r.name, .string r.value] 108)) := hW2
      have b2 : Below wr.heap.size wr W2 := by rw [hW2]; exact (Below.refl _ _).alloc (Nat.le_refl _) _
      have R2 : Hid (W2.ownsRow w.heap.size 108 2 (.slice va k vc) k (hdrsW (l.take k)) ∧ Below w.heap.size w W2) := ⟨row_below hrow b2, hb.trans (b2.mono hb.size)⟩
      have HT : Hid (hdrsW (l.take k) ++ [.string r.name, .string r.value] = hdrsW (l.take (k + 1))) := by
        show _ = _
        obtain ⟨hk2, rfl⟩ := List.getElem?_eq_some_iff.1 hr
        rw [List.take_succ_eq_append_getElem hk2]
        unfold hdrsW
        rw [List.flatMap_append, List.flatMap_cons, List.flatMap_nil, List.append_nil]
        rfl
      have CL : Hid (∀ X, Calls Tryz.prog 66 #[.string r.name, .string r.value] X fun e w' => e = .returned (.agg #[.string r.name, .string r.value]) ∧ Below X.heap.size X w') := fun X => lineOf_anew _ _ X sm.1 sm.2
      clear hrow hat hr sm hW2 b2 hb
      go_wp2_with fail
      rw [← HW2.out]
      clear HW2 p0 p1
      refine (CL.out _).mono ?_
      rintro e0 wa ⟨rfl, hba⟩
      have N3 : Hid (1 = 0 ∨ ∃ ad, some (⟨wa.heap.size, 0, none⟩ : Addr) = some ad ∧ ∀ j u, ([Value.string r.name, Value.string r.value])[j]? = some u → (wa.alloc (.cells #[.string r.name, .string r.value] 108)).cell? (ad.add j) = some u) := by
        refine .inr ⟨_, rfl, fun j u hj => ?_⟩
        rw [cadd]
        match j, hj with
        | 0, hj => simp at hj; subst hj; simp
        | 1, hj => simp at hj; subst hj; simp
      have b3 : Below W2.heap.size W2 (wa.alloc (.cells #[.string r.name, .string r.value] 108)) := hba.alloc hba.size _
      have RR3 : Hid ((wa.alloc (.cells #[.string r.name, .string r.value] 108)).ownsRow w.heap.size 108 2 (.slice va k vc) k (hdrsW (l.take k)) ∧ Below w.heap.size w (wa.alloc (.cells #[.string r.name, .string r.value] 108))) := ⟨row_below R2.out.1 b3, R2.out.2.trans (b3.mono R2.out.2.size)⟩
      clear b3 hba R2
      go_wp2_with (at_builtin; refine wpList_plain rfl fun _ hK => wp_append_in _ (.tmp 12) (.tmp 18) 27 108 rfl i0 _ 2 32 Tryz.underlying27 hi0 hz0 hz1 hz2 rfl (by omega) w.heap.size _ k (hdrsW (l.take k)) rfl RR3.out.1 (some ⟨wa.heap.size, 0, none⟩) 1 1 [.string r.name, .string r.value] rfl rfl N3.out (by simp [Value.oneCell']) (by unfold maxLen; omega) (by omega) RR3.out.2.size (fun v' w' h1 h2 _ => hK _ _ ?_))
      have HF : Hid (w'.ownsRow w.heap.size 108 2 v' (k + 1) (hdrsW (l.take (k + 1))) ∧ Below w.heap.size w w') := by
        rw [HT.out] at h1
        exact ⟨h1, RR3.out.2.trans h2⟩
      clear h1 h2 RR3 N3
      go_wp2_with fail
      go_roundw
      case rel => exact ⟨k + 1, by omega, by go_num, HF.out.1, HF.out.2⟩
      case measure => simp [intOf]; omega
    · have HF : Hid (RowH wr w.heap.size (.slice va k vc) l) := by
        have e : l.take k = l := List.take_of_length_le (by have := HN.out; omega)
        have := hrow
        rw [e] at this
        have hkn : k = l.length := by have := HN.out; omega
        subst hkn
        exact this
      clear hrow
      go_wp2_with fail
      go_ret
      exact ⟨⟨_, rfl, HF.out⟩, hb⟩
end Go.Proofs.YtopkidfbkhjaeaaGreatDoor
/-
  RelayOf: what it answers, by the model and by the program.
-/
namespace Go.Proofs.YtopkidfbkhjaeaaGreatDoor
open Go.ChangeShapes Go.WideShapes Go.ChangeAt Go.RowKit Go.Sort
/-- Rows with their lengths. -/
def HLn (a : Option Addr) (n c : Nat) (l : List Hdr) (lo hi : Nat) (X : World) : Prop := n = l.length ∧ HL (.slice a n c) l lo hi X
def BLn (a : Option Addr) (n c : Nat) (l : List UInt8) (lo hi : Nat) (X : World) : Prop := n = l.length ∧ BL (.slice a n c) l lo hi X
theorem HLn.of {a : Option Addr} {c : Nat} {l : List Hdr} {lo hi : Nat} {X : World} (h : At lo hi (HL (.slice a l.length c) l) X) : At lo hi (HLn a l.length c l) X :=
  ⟨h.le, fun X X' h1 h2 hc k => ⟨k.1, HL.dep _ _ _ _ X X' h1 h2 hc k.2⟩, rfl, h.val⟩
theorem BLn.of {a : Option Addr} {c : Nat} {l : List UInt8} {lo hi : Nat} {X : World} (h : At lo hi (BL (.slice a l.length c) l) X) : At lo hi (BLn a l.length c l) X :=
  ⟨h.le, fun X X' h1 h2 hc k => ⟨k.1, BL.dep _ _ _ _ X X' h1 h2 hc k.2⟩, rfl, h.val⟩
def relS (c s : Int) : Int := if c = 0 then s else 0
def relL (c : Int) (l : List Hdr) : List Hdr := if c = 0 then relayL l else []
def relB (c : Int) (hd : Bool) (bl : List UInt8) : List UInt8 := if c = 0 then bodyL hd bl else []
/-- What RelayOf answers. -/
def RelayRes (s : Int) (l : List Hdr) (hd : Bool) (bl : List UInt8) (w w' : World) (e : Ending) : Prop :=
  ∃ ra rn rk rb rm rl, e = .returned (.agg #[.int .i64 (respC s l bl.length), .int .i64 (relS (respC s l bl.length) s), .slice ra rn rk, .slice rb rm rl]) ∧ At w.heap.size w'.heap.size (RR (relL (respC s l bl.length) l) (relB (respC s l bl.length) hd bl) ra rn rk rb rm rl) w'
theorem RelayRes.bad {s : Int} {l : List Hdr} {hd : Bool} {bl : List UInt8} {w w' : World} {c : Int} (h : respC s l bl.length = c) (h0 : c ≠ 0) : RelayRes s l hd bl w w' (.returned (.agg #[.int .i64 c, .int .i64 0, .slice none 0 0, .slice none 0 0])) := by
  refine ⟨none, 0, 0, none, 0, 0, ?_, ?_⟩
  · rw [h]; unfold relS; rw [if_neg h0]
  · rw [h]; unfold relL relB; rw [if_neg h0, if_neg h0]; exact (RR.nil _ _)
theorem RelayRes.good {s : Int} {l : List Hdr} {hd : Bool} {bl : List UInt8} {w w' : World} {ra : Option Addr} {rn rk : Nat} {rb : Option Addr} {rm rl : Nat} (h : respC s l bl.length = 0) (k : At w.heap.size w'.heap.size (RR (relayL l) (bodyL hd bl) ra rn rk rb rm rl) w') : RelayRes s l hd bl w w' (.returned (.agg #[.int .i64 0, .int .i64 s, .slice ra rn rk, .slice rb rm rl])) := by
  refine ⟨ra, rn, rk, rb, rm, rl, ?_, ?_⟩
  · rw [h]; rfl
  · rw [h]; exact k
theorem resp_small {s : Int} {l : List Hdr} {bn : Nat} (h : respC s l bn = 0) : l.length ≤ 20 ∧ (∀ (i : Nat) r, l[i]? = some r → r.name.size ≤ 64 ∧ r.value.size ≤ 200) ∧ headsC l = 0 := by
  obtain ⟨_, _, y3, _⟩ := respC_zero h
  obtain ⟨h20, hf⟩ := headsC_zero y3
  exact ⟨h20, fun i r hr => by obtain ⟨x1, x2, _⟩ := faultH_zero (hf i r hr); exact ⟨hword_max x1, x2⟩, y3⟩
set_option maxRecDepth 100000 in
set_option maxHeartbeats 16000000 in
theorem specRelay_any (w : World) (s : Int) (a : Option Addr) (cap : Nat) (l : List Hdr) (b : Option Addr) (bc : Nat) (bl : List UInt8) (hd : Bool) (hl : l.length ≤ 1048576) (hbl : bl.length ≤ 1048576) (hi : HdsIn w a l) (hib : BIn w b bl) :
    Calls Tryz.prog 8 #[.agg #[.int .i64 s, .slice a l.length cap, .slice b bl.length bc], .bool hd] w fun e w' => RelayRes s l hd bl w w' e ∧ Below w.heap.size w w' := by
  have CF0 := specResp_any
  obtain ⟨W, hW⟩ : ∃ W, W = ((w.alloc (.cells #[.int .i64 s, .slice a l.length cap, .slice b bl.length bc] 29)).alloc (.cells #[.int .i64 0, .int .i64 0, .slice none 0 0, .slice none 0 0] 31)) := ⟨_, rfl⟩
  have HW : Hid (W = ((w.alloc (.cells #[.int .i64 s, .slice a l.length cap, .slice b bl.length bc] 29)).alloc (.cells #[.int .i64 0, .int .i64 0, .slice none 0 0, .slice none 0 0] 31))) := hW
  have bW : Below w.heap.size w W := by rw [hW]; exact ((Below.refl _ _).alloc (Nat.le_refl _) _).alloc (by simp) _
  have KW : Hid (Below w.heap.size w W ∧ At w.heap.size (w.heap.size + 1) (Bx w.heap.size [.int .i64 s, .slice a l.length cap, .slice b bl.length bc]) W ∧ At (w.heap.size + 1) (w.heap.size + 1 + 1) (Bx (w.heap.size + 1) [.int .i64 0, .int .i64 0, .slice none 0 0, .slice none 0 0]) W) := ⟨bW, by rw [hW]; exact (Bx.new _ [.int .i64 s, .slice a l.length cap, .slice b bl.length bc] _).al _, by rw [hW]; exact Bx.newAt (by simp) [.int .i64 0, .int .i64 0, .slice none 0 0, .slice none 0 0] _⟩
  have HP : Hid (∀ X, Below w.heap.size w X → HdsIn X a l ∧ BIn X b bl) := fun X hX => ⟨hi.keep hX, hib.keep hX⟩
  have CF : Hid (∀ X, Below w.heap.size w X → Calls Tryz.prog 42 #[.agg #[.int .i64 s, .slice a l.length cap, .slice b bl.length bc]] X fun e w' => e = .returned (.int .i64 (respC s l bl.length)) ∧ Below X.heap.size X w') := fun X hX => CF0 X s a cap l b bl.length bc hl hbl (hi.keep hX)
  have CR : Hid (respC s l bl.length = 0 → ∀ X, Below w.heap.size w X → At w.heap.size (w.heap.size + 1) (Bx w.heap.size [.int .i64 s, .slice a l.length cap, .slice b bl.length bc]) X → Calls Tryz.prog 43 #[.pointer (some ⟨w.heap.size, 0, none⟩), .bool hd] X fun e w' => (∃ ra rn rk rb rm rl, e = .returned (.agg #[.int .i64 s, .slice ra rn rk, .slice rb rm rl]) ∧ At X.heap.size w'.heap.size (RR (relayL l) (bodyL hd bl) ra rn rk rb rm rl) w') ∧ Below X.heap.size X w') := fun hc X hX bx => by
    obtain ⟨h20, hz, _⟩ := resp_small hc
    exact (l13Relay_any X w.heap.size s a cap l b bc bl hd h20 (fun i r hr => (hz i r hr).1) hbl (hi.keep hX) (hib.keep hX) bx).mono fun e w' ⟨⟨ra, rk, rb, rl, h1, h2⟩, h3⟩ => ⟨⟨ra, _, rk, rb, _, rl, h1, h2⟩, h3⟩
  clear hW bW hi hib CF0
  by_cases hc : respC s l bl.length = 0
  · have HC : Hid (respC s l bl.length = 0) := hc
    replace CR := hidL (CR.out hc)
    rw [hc] at CF
    clear hc HP hl hbl
    have HGOOD : Hid (∀ w' ra rn rk rb rm rl, At w.heap.size w'.heap.size (RR (relayL l) (bodyL hd bl) ra rn rk rb rm rl) w' → RelayRes s l hd bl w w' (.returned (.agg #[.int .i64 0, .int .i64 s, .slice ra rn rk, .slice rb rm rl]))) := fun w' ra rn rk rb rm rl k => RelayRes.good HC.out k
    generalize l.length = n at *
    generalize bl.length = bn at *
    go_enter Tryz.func8, Tryz.ntmps8
    go_wp2_with fail
    rw [← HW.out]
    refine (CF.out W KW.out.1).mono ?_
    rintro e w1 ⟨rfl, hb1⟩
    have K1 : Hid (Below w.heap.size w w1 ∧ At w.heap.size (w.heap.size + 1) (Bx w.heap.size [.int .i64 s, .slice a n cap, .slice b bn bc]) w1 ∧ At (w.heap.size + 1) (w.heap.size + 1 + 1) (Bx (w.heap.size + 1) [.int .i64 0, .int .i64 0, .slice none 0 0, .slice none 0 0]) w1) := ⟨KW.out.1.trans (hb1.mono KW.out.1.size), KW.out.2.1.keep hb1, KW.out.2.2.keep hb1⟩
    clear hb1 KW HW CF
    go_wp2_with fail
    refine (CR.out w1 K1.out.1 K1.out.2.1).mono ?_
    rintro e w2 ⟨⟨ra, rn, rk, rb, rm, rl, rfl, c2⟩, hb2⟩
    have K2 : Hid (Below w.heap.size w w2 ∧ At (w.heap.size + 1) (w.heap.size + 1 + 1) (Bx (w.heap.size + 1) [.int .i64 0, .int .i64 0, .slice none 0 0, .slice none 0 0]) w2 ∧ At w1.heap.size w2.heap.size (RR (relayL l) (bodyL hd bl) ra rn rk rb rm rl) w2 ∧ w.heap.size + 1 + 1 ≤ w1.heap.size) := ⟨K1.out.1.trans (hb2.mono K1.out.1.size), K1.out.2.2.keep hb2, c2, K1.out.2.2.le⟩
    clear c2 hb2 K1 CR
    have z0 := K2.out.2.1.val.1 0 _ rfl
    have z1 := K2.out.2.1.val.1 1 _ rfl
    have z2 := K2.out.2.1.val.1 2 _ rfl
    have z3 := K2.out.2.1.val.1 3 _ rfl
    have zf0 := K2.out.2.1.val.2 0
    have zf1 := K2.out.2.1.val.2 1
    have zf2 := K2.out.2.1.val.2 2
    have zf3 := K2.out.2.1.val.2 3
    have HF : Hid (At w.heap.size ((((w2.setCell ⟨w.heap.size + 1, 0, none⟩ (.int .i64 0)).setCell ⟨w.heap.size + 1, 1, none⟩ (.int .i64 s)).setCell ⟨w.heap.size + 1, 2, none⟩ (.slice ra rn rk)).setCell ⟨w.heap.size + 1, 3, none⟩ (.slice rb rm rl)).heap.size (RR (relayL l) (bodyL hd bl) ra rn rk rb rm rl) ((((w2.setCell ⟨w.heap.size + 1, 0, none⟩ (.int .i64 0)).setCell ⟨w.heap.size + 1, 1, none⟩ (.int .i64 s)).setCell ⟨w.heap.size + 1, 2, none⟩ (.slice ra rn rk)).setCell ⟨w.heap.size + 1, 3, none⟩ (.slice rb rm rl)) ∧ Below w.heap.size w ((((w2.setCell ⟨w.heap.size + 1, 0, none⟩ (.int .i64 0)).setCell ⟨w.heap.size + 1, 1, none⟩ (.int .i64 s)).setCell ⟨w.heap.size + 1, 2, none⟩ (.slice ra rn rk)).setCell ⟨w.heap.size + 1, 3, none⟩ (.slice rb rm rl))) := by
      have c := K2.out.2.2.1
      have hy := K2.out.2.2.2
      have bb := K2.out.1
      have c2 : At w1.heap.size w2.heap.size (RR (relayL l) (bodyL hd bl) ra rn rk rb rm rl) ((((w2.setCell ⟨w.heap.size + 1, 0, none⟩ (.int .i64 0)).setCell ⟨w.heap.size + 1, 1, none⟩ (.int .i64 s)).setCell ⟨w.heap.size + 1, 2, none⟩ (.slice ra rn rk)).setCell ⟨w.heap.size + 1, 3, none⟩ (.slice rb rm rl)) := (((c.set _ (.inl (by omega))).set _ (.inl (by omega))).set _ (.inl (by omega))).set _ (.inl (by omega))
      exact ⟨⟨Nat.le_refl _, RR.dep _ _ _ _ _ _ _ _ _ _, c2.val.1, c2.val.2.1, c2.val.2.2.1.wide (by omega) (by simp), c2.val.2.2.2.1.wide (by omega) (by simp), c2.val.2.2.2.2⟩, (((bb.setCell (by simp) _).setCell (by simp) _).setCell (by simp) _).setCell (by simp) _⟩
    clear K2
    go_wp2_with fail
    exact bodyPost_ret (v := .agg #[.int .i64 0, .int .i64 s, .slice ra rn rk, .slice rb rm rl]) (by simp [results, Tryz.results8, go_sem, z0, z1, z2, z3]) rfl ⟨HGOOD.out _ _ _ _ _ _ _ HF.out.1, HF.out.2⟩
  · have HB : Hid (∀ w', RelayRes s l hd bl w w' (.returned (.agg #[.int .i64 (respC s l bl.length), .int .i64 0, .slice none 0 0, .slice none 0 0]))) := fun w' => RelayRes.bad rfl hc
    clear HP hl hbl CR
    generalize respC s l bl.length = c at *
    generalize l.length = n at *
    generalize bl.length = bn at *
    go_enter Tryz.func8, Tryz.ntmps8
    go_wp2_with fail
    rw [← HW.out]
    refine (CF.out W KW.out.1).mono ?_
    rintro e w1 ⟨rfl, hb1⟩
    have K1 : Hid (Below w.heap.size w w1 ∧ At (w.heap.size + 1) (w.heap.size + 1 + 1) (Bx (w.heap.size + 1) [.int .i64 0, .int .i64 0, .slice none 0 0, .slice none 0 0]) w1) := ⟨KW.out.1.trans (hb1.mono KW.out.1.size), KW.out.2.2.keep hb1⟩
    clear hb1 KW HW CF
    have z0 := K1.out.2.val.1 0 _ rfl
    have z1 := K1.out.2.val.1 1 _ rfl
    have z2 := K1.out.2.val.1 2 _ rfl
    have z3 := K1.out.2.val.1 3 _ rfl
    have zf0 := K1.out.2.val.2 0
    have zf1 := K1.out.2.val.2 1
    have zf2 := K1.out.2.val.2 2
    have zf3 := K1.out.2.val.2 3
    go_wp2_with fail
    have bb := K1.out.1
    exact bodyPost_ret (v := .agg #[.int .i64 c, .int .i64 0, .slice none 0 0, .slice none 0 0]) (by simp [results, Tryz.results8, go_sem, z0, z1, z2, z3]) rfl ⟨HB.out _, (((bb.setCell (by simp) _).setCell (by simp) _).setCell (by simp) _).setCell (by simp) _⟩
set_option maxRecDepth 100000 in
set_option maxHeartbeats 16000000 in
theorem implRelay_any (E : Errs) (w : World) (s : Int) (a : Option Addr) (cap : Nat) (l : List Hdr) (b : Option Addr) (bc : Nat) (bl : List UInt8) (hd : Bool) (hl : l.length ≤ 1048576) (hbl : bl.length ≤ 1048576) (hset : SetIs w) (hE : ErrsIs w E) (hi : HdsIn w a l) (hib : BIn w b bl) :
    Calls Tryz.prog 10 #[.agg #[.int .i64 s, .slice a l.length cap, .slice b bl.length bc], .bool hd] w fun e w' => RelayRes s l hd bl w w' e ∧ Below w.heap.size w w' := by
  have CF0 := implResp_any E
  obtain ⟨W, hW⟩ : ∃ W, W = ((w.alloc (.cells #[.int .i64 s, .slice a l.length cap, .slice b bl.length bc] 29)).alloc (.cells #[.int .i64 0, .int .i64 0, .slice none 0 0, .slice none 0 0] 31)) := ⟨_, rfl⟩
  have HW : Hid (W = ((w.alloc (.cells #[.int .i64 s, .slice a l.length cap, .slice b bl.length bc] 29)).alloc (.cells #[.int .i64 0, .int .i64 0, .slice none 0 0, .slice none 0 0] 31))) := hW
  have bW : Below w.heap.size w W := by rw [hW]; exact ((Below.refl _ _).alloc (Nat.le_refl _) _).alloc (by simp) _
  have KW : Hid (Below w.heap.size w W ∧ At w.heap.size (w.heap.size + 1) (Bx w.heap.size [.int .i64 s, .slice a l.length cap, .slice b bl.length bc]) W ∧ At (w.heap.size + 1) (w.heap.size + 1 + 1) (Bx (w.heap.size + 1) [.int .i64 0, .int .i64 0, .slice none 0 0, .slice none 0 0]) W) := ⟨bW, by rw [hW]; exact (Bx.new _ [.int .i64 s, .slice a l.length cap, .slice b bl.length bc] _).al _, by rw [hW]; exact Bx.newAt (by simp) [.int .i64 0, .int .i64 0, .slice none 0 0, .slice none 0 0] _⟩
  have HP : Hid (∀ X, Below w.heap.size w X → HdsIn X a l ∧ BIn X b bl) := fun X hX => ⟨hi.keep hX, hib.keep hX⟩
  have CF : Hid (∀ X, Below w.heap.size w X → Calls Tryz.prog 46 #[.agg #[.int .i64 s, .slice a l.length cap, .slice b bl.length bc]] X fun e w' => e = .returned (.int .i64 (respC s l bl.length)) ∧ Below X.heap.size X w') := fun X hX => CF0 X s a cap l b bl.length bc hl hbl (hset.below hX) (hE.below hX) (hi.keep hX)
  have CL : Hid (respC s l bl.length = 0 → ∀ X, Below w.heap.size w X → Calls Tryz.prog 47 #[.slice a l.length cap] X fun e w' => (∃ va vn vc, e = .returned (.slice va vn vc) ∧ At X.heap.size w'.heap.size (HLn va vn vc l) w') ∧ Below X.heap.size X w') := fun hc X hX => by
    obtain ⟨h20, hz, _⟩ := resp_small hc
    exact (linesAnew_any X a cap l hl (fun r hr => by obtain ⟨i, hi'⟩ := List.mem_iff_getElem?.1 hr; have := hz i r hi'; omega) (hi.keep hX)).mono fun e w' ⟨⟨v, h1, h2⟩, h3⟩ => by
      obtain ⟨va, vc, rfl, _⟩ := row_form h2
      exact ⟨⟨va, _, vc, h1, HLn.of (RowH.at h2)⟩, h3⟩
  have CB : Hid (∀ X, Below w.heap.size w X → Calls Tryz.prog 48 #[.slice b bl.length bc, .bool hd] X fun e w' => (∃ vb vm vd, e = .returned (.slice vb vm vd) ∧ At X.heap.size w'.heap.size (BLn vb vm vd (bodyL hd bl)) w') ∧ Below X.heap.size X w') := fun X hX => (bodyFor_any X b bc bl hd hbl (hib.keep hX)).mono fun e w' ⟨⟨x, k, h1, h2⟩, h3⟩ => ⟨⟨x, _, k, h1, BLn.of h2⟩, h3⟩
  have CS : Hid (respC s l bl.length = 0 → ∀ X, Below w.heap.size w X → Calls Tryz.prog 49 #[.slice a l.length cap, .string cacheN, .string missV] X fun e w' => (∃ sc sa sn sk, e = .returned (.agg #[.int .i64 sc, .slice sa sn sk]) ∧ (sc = 0 ∧ At X.heap.size w'.heap.size (HLn sa sn sk (relayL l)) w' ∨ sc = 2 ∧ relayL l = l)) ∧ Below X.heap.size X w') := fun hc X hX => by
    obtain ⟨h20, hz, h3⟩ := resp_small hc
    have a0 : askC l (Hdr.mk cacheN missV).name = 0 := askC_word h3 (by decide)
    have f0 : faultH ⟨cacheN, missV⟩ = 0 := by decide
    refine (implSet_any X a cap l cacheN missV hl (by decide) (by decide) (hset.below hX) (hi.keep hX)).mono ?_
    rintro e w' ⟨⟨v, h1, h2⟩, h3⟩
    by_cases hm : 20 < (setGo ⟨cacheN, missV⟩ false l).length
    · obtain ⟨g1, g2⟩ := set_many a0 f0 hm
      obtain ⟨va, vc, rfl, _⟩ := row_form h2
      rw [g1] at h1
      exact ⟨⟨2, va, _, vc, h1, .inr ⟨rfl, by unfold relayL; rw [if_pos hm]⟩⟩, h3⟩
    · obtain ⟨g1, g2⟩ := set_ok a0 f0 hm
      obtain ⟨va, vc, rfl, _⟩ := row_form h2
      have e2 : relayL l = setL l ⟨cacheN, missV⟩ := by rw [g2]; unfold relayL; rw [if_neg hm]
      rw [g1] at h1
      exact ⟨⟨0, va, _, vc, h1, .inl ⟨rfl, by rw [e2]; exact HLn.of (RowH.at h2)⟩⟩, h3⟩
  clear hW bW hi hib CF0 hset hE
  by_cases hc : respC s l bl.length = 0
  · have HC : Hid (respC s l bl.length = 0) := hc
    replace CL := hidL (CL.out hc)
    replace CS := hidL (CS.out hc)
    rw [hc] at CF
    clear hc HP hl hbl
    have HGOOD : Hid (∀ w' ra rn rk rb rm rl, At w.heap.size w'.heap.size (RR (relayL l) (bodyL hd bl) ra rn rk rb rm rl) w' → RelayRes s l hd bl w w' (.returned (.agg #[.int .i64 0, .int .i64 s, .slice ra rn rk, .slice rb rm rl]))) := fun w' ra rn rk rb rm rl k => RelayRes.good HC.out k
    generalize l.length = n at *
    generalize bl.length = bn at *
    go_enter Tryz.func10, Tryz.ntmps10
    go_wp2_with fail
    rw [← HW.out]
    refine (CF.out W KW.out.1).mono ?_
    rintro e w1 ⟨rfl, hb1⟩
    have K1 : Hid (Below w.heap.size w w1 ∧ At w.heap.size (w.heap.size + 1) (Bx w.heap.size [.int .i64 s, .slice a n cap, .slice b bn bc]) w1 ∧ At (w.heap.size + 1) (w.heap.size + 1 + 1) (Bx (w.heap.size + 1) [.int .i64 0, .int .i64 0, .slice none 0 0, .slice none 0 0]) w1) := ⟨KW.out.1.trans (hb1.mono KW.out.1.size), KW.out.2.1.keep hb1, KW.out.2.2.keep hb1⟩
    clear hb1 KW HW CF
    go_upto_region 4 with fail
    go_cut [6] from 14 to 23 (fun sx wx => ∃ (X0 : Nat) (l1 h1 : Nat) (l2 h2 : Nat) (va : Option Addr) (vn : Nat) (vc : Nat) (vb : Option Addr) (vm : Nat) (vd : Nat), sx = .pointer (some ⟨X0, 0, none⟩) ∧ Below w1.heap.size w1 wx ∧ At X0 (X0 + 1) (Bx X0 [.int .i64 s, .slice va vn vc, .slice vb vm vd]) wx ∧ w1.heap.size ≤ X0 ∧ At l1 h1 (HLn va vn vc l) wx ∧ (X0 < l1 ∨ h1 ≤ X0) ∧ w1.heap.size ≤ l1 ∧ l1 ≤ h1 ∧ At l2 h2 (BLn vb vm vd (bodyL hd bl)) wx ∧ (X0 < l2 ∨ h2 ≤ X0) ∧ w1.heap.size ≤ l2 ∧ l2 ≤ h2 ∧ h1 ≤ l2)
    case first =>
      have HKS : Hid (∀ X, Below w1.heap.size w1 X → X.cell? ⟨w.heap.size, 0, none⟩ = some (.int .i64 s) ∧ X.cell? ⟨w.heap.size, 1, none⟩ = some (.slice a n cap) ∧ X.cell? ⟨w.heap.size, 2, none⟩ = some (.slice b bn bc)) := fun X hX => ⟨(K1.out.2.1.keep hX).val.1 0 _ rfl, (K1.out.2.1.keep hX).val.1 1 _ rfl, (K1.out.2.1.keep hX).val.1 2 _ rfl⟩
      have B0 : Hid (Below w1.heap.size w1 w1.drew) := (Below.refl _ _).drew
      have B0A : Hid (Below w1.heap.size w1 (w1.alloc (.cells #[.int .i64 0, .slice none 0 0, .slice none 0 0] 29)).drew) := ((Below.refl _ _).alloc (Nat.le_refl _) _).drew
      have ZA0 : Hid (At w1.heap.size (w1.heap.size + 1) (Bx w1.heap.size [.int .i64 0, .slice none 0 0, .slice none 0 0]) (w1.alloc (.cells #[.int .i64 0, .slice none 0 0, .slice none 0 0] 29)).drew) := (Bx.newAt rfl [.int .i64 0, .slice none 0 0, .slice none 0 0] _).keep ((Below.refl _ _).drew)
      go_region_held3 (fun X => X.cell? ⟨w.heap.size, 0, none⟩ = some (.int .i64 s) ∧ X.cell? ⟨w.heap.size, 1, none⟩ = some (.slice a n cap) ∧ X.cell? ⟨w.heap.size, 2, none⟩ = some (.slice b bn bc))
        (first | ((with_reducible refine HKS.out _ ?_); (with_reducible exact BD.out)) | ((with_reducible refine HKS.out _ ?_); (with_reducible exact B2.out)) | ((with_reducible refine HKS.out _ ?_); (with_reducible exact B1.out)) | ((with_reducible refine HKS.out _ ?_); (with_reducible exact B0.out)) | ((with_reducible refine HKS.out _ ?_); (with_reducible exact B0A.out)) | ((with_reducible refine HKS.out _ ?_); (with_reducible exact B2.out.alloc B2.out.size _)) | ((with_reducible refine HKS.out _ ?_); (with_reducible exact B1.out.alloc B1.out.size _)) | ((with_reducible refine HKS.out _ ?_); (with_reducible exact (Below.refl _ _).alloc (Nat.le_refl _) _)))
        (first
          | (go_at_call 47; first
            | (have HBB : Hid (Below w1.heap.size w1 w1.drew) := B0.out; (with_reducible refine (CL.out w1.drew (K1.out.1.trans (HBB.out.mono K1.out.1.size))).mono ?_); rintro e0 ut1 ⟨⟨va, vn, vc, rfl, ca⟩, hb⟩; have B1 : Hid (Below w1.heap.size w1 ut1) := HBB.out.trans (hb.mono HBB.out.size); have C1 : Hid (At w1.drew.heap.size ut1.heap.size (HLn va vn vc l) ut1) := ca; clear ca; have M1 := hidL (show w1.heap.size ≤ w1.drew.heap.size ∧ w1.drew.heap.size ≤ ut1.heap.size from ⟨HBB.out.size, hb.size⟩); clear hb; clear HBB)
            | (have HBB : Hid (Below w1.heap.size w1 (w1.alloc (.cells #[.int .i64 0, .slice none 0 0, .slice none 0 0] 29)).drew) := B0A.out; (with_reducible refine (CL.out (w1.alloc (.cells #[.int .i64 0, .slice none 0 0, .slice none 0 0] 29)).drew (K1.out.1.trans (HBB.out.mono K1.out.1.size))).mono ?_); rintro e0 ut1 ⟨⟨va, vn, vc, rfl, ca⟩, hb⟩; have B1 : Hid (Below w1.heap.size w1 ut1) := HBB.out.trans (hb.mono HBB.out.size); have C1 : Hid (At (w1.alloc (.cells #[.int .i64 0, .slice none 0 0, .slice none 0 0] 29)).drew.heap.size ut1.heap.size (HLn va vn vc l) ut1) := ca; clear ca; have M1 := hidL (show w1.heap.size ≤ (w1.alloc (.cells #[.int .i64 0, .slice none 0 0, .slice none 0 0] 29)).drew.heap.size ∧ (w1.alloc (.cells #[.int .i64 0, .slice none 0 0, .slice none 0 0] 29)).drew.heap.size ≤ ut1.heap.size from ⟨HBB.out.size, hb.size⟩); have D1 := hidL (show w1.heap.size < (w1.alloc (.cells #[.int .i64 0, .slice none 0 0, .slice none 0 0] 29)).drew.heap.size ∨ ut1.heap.size ≤ w1.heap.size from .inl (by simp)); have Z1x1 := hidL (ZA0.out.keep hb); clear hb; clear HBB))
          | (go_at_call 48; first
            | (have hz := Z1x1.out; have HBB : Hid (Below w1.heap.size w1 ut1) := B1.out; (with_reducible refine (CB.out ut1 (K1.out.1.trans (HBB.out.mono K1.out.1.size))).mono ?_); rintro e0 ut2 ⟨⟨vb, vm, vd, rfl, ca⟩, hb⟩; have B2 : Hid (Below w1.heap.size w1 ut2) := HBB.out.trans (hb.mono HBB.out.size); have C2 : Hid (At ut1.heap.size ut2.heap.size (BLn vb vm vd (bodyL hd bl)) ut2) := ca; clear ca; have M2 := hidL (show w1.heap.size ≤ ut1.heap.size ∧ ut1.heap.size ≤ ut2.heap.size from ⟨HBB.out.size, hb.size⟩); have O2 := hidL (C1.out.le); have D2 := hidL (show w1.heap.size < ut1.heap.size ∨ ut2.heap.size ≤ w1.heap.size from .inl (Nat.lt_of_lt_of_le (Nat.lt_succ_self _) hz.le)); have C1x2 := hidL (C1.out.keep hb); have Z1x2 := hidL (hz.keep hb); have hXw : w1.heap.size ≤ w1.heap.size := Nat.le_refl _; have y0 : At w1.heap.size (w1.heap.size + 1) (Bx w1.heap.size [.int .i64 s, .slice none 0 0, .slice none 0 0]) _ := Bx.put Z1x2.out 0 (.int .i64 s) (by simp); have y1 : At w1.heap.size (w1.heap.size + 1) (Bx w1.heap.size [.int .i64 s, .slice va vn vc, .slice none 0 0]) _ := Bx.put y0 1 (.slice va vn vc) (by simp); have y2 : At w1.heap.size (w1.heap.size + 1) (Bx w1.heap.size [.int .i64 s, .slice va vn vc, .slice vb vm vd]) _ := Bx.put y1 2 (.slice vb vm vd) (by simp); have BD : Hid (Below w1.heap.size w1 (((ut2.setCell ⟨w1.heap.size, 0, none⟩ (.int .i64 s)).setCell ⟨w1.heap.size, 1, none⟩ (.slice va vn vc)).setCell ⟨w1.heap.size, 2, none⟩ (.slice vb vm vd))) := (((B2.out.setCell hXw _).setCell hXw _).setCell hXw _); have FIN := hidL (show Below w1.heap.size w1 (((ut2.setCell ⟨w1.heap.size, 0, none⟩ (.int .i64 s)).setCell ⟨w1.heap.size, 1, none⟩ (.slice va vn vc)).setCell ⟨w1.heap.size, 2, none⟩ (.slice vb vm vd)) ∧ At w1.heap.size (w1.heap.size + 1) (Bx w1.heap.size [.int .i64 s, .slice va vn vc, .slice vb vm vd]) (((ut2.setCell ⟨w1.heap.size, 0, none⟩ (.int .i64 s)).setCell ⟨w1.heap.size, 1, none⟩ (.slice va vn vc)).setCell ⟨w1.heap.size, 2, none⟩ (.slice vb vm vd)) ∧ w1.heap.size ≤ w1.heap.size ∧ At (w1.alloc (.cells #[.int .i64 0, .slice none 0 0, .slice none 0 0] 29)).drew.heap.size ut1.heap.size (HLn va vn vc l) (((ut2.setCell ⟨w1.heap.size, 0, none⟩ (.int .i64 s)).setCell ⟨w1.heap.size, 1, none⟩ (.slice va vn vc)).setCell ⟨w1.heap.size, 2, none⟩ (.slice vb vm vd)) ∧ (w1.heap.size < (w1.alloc (.cells #[.int .i64 0, .slice none 0 0, .slice none 0 0] 29)).drew.heap.size ∨ ut1.heap.size ≤ w1.heap.size) ∧ w1.heap.size ≤ (w1.alloc (.cells #[.int .i64 0, .slice none 0 0, .slice none 0 0] 29)).drew.heap.size ∧ (w1.alloc (.cells #[.int .i64 0, .slice none 0 0, .slice none 0 0] 29)).drew.heap.size ≤ ut1.heap.size ∧ At ut1.heap.size ut2.heap.size (BLn vb vm vd (bodyL hd bl)) (((ut2.setCell ⟨w1.heap.size, 0, none⟩ (.int .i64 s)).setCell ⟨w1.heap.size, 1, none⟩ (.slice va vn vc)).setCell ⟨w1.heap.size, 2, none⟩ (.slice vb vm vd)) ∧ (w1.heap.size < ut1.heap.size ∨ ut2.heap.size ≤ w1.heap.size) ∧ w1.heap.size ≤ ut1.heap.size ∧ ut1.heap.size ≤ ut2.heap.size ∧ ut1.heap.size ≤ ut1.heap.size from ⟨BD.out, y2, hXw, (((C1x2.out.set (.int .i64 s) D1.out).set (.slice va vn vc) D1.out).set (.slice vb vm vd) D1.out), D1.out, M1.out.1, M1.out.2, (((C2.out.set (.int .i64 s) D2.out).set (.slice va vn vc) D2.out).set (.slice vb vm vd) D2.out), D2.out, M2.out.1, M2.out.2, O2.out⟩); have z0 := Z1x2.out.val.1 0 _ rfl; have zf0 := Z1x2.out.val.2 0; have z1 := Z1x2.out.val.1 1 _ rfl; have zf1 := Z1x2.out.val.2 1; have z2 := Z1x2.out.val.1 2 _ rfl; have zf2 := Z1x2.out.val.2 2; clear hb hXw y0 y1 y2; clear HBB)
            | (have HBB : Hid (Below w1.heap.size w1 ut1) := B1.out; (with_reducible refine (CB.out ut1 (K1.out.1.trans (HBB.out.mono K1.out.1.size))).mono ?_); rintro e0 ut2 ⟨⟨vb, vm, vd, rfl, ca⟩, hb⟩; have B2 : Hid (Below w1.heap.size w1 ut2) := HBB.out.trans (hb.mono HBB.out.size); have C2 : Hid (At ut1.heap.size ut2.heap.size (BLn vb vm vd (bodyL hd bl)) ut2) := ca; clear ca; have M2 := hidL (show w1.heap.size ≤ ut1.heap.size ∧ ut1.heap.size ≤ ut2.heap.size from ⟨HBB.out.size, hb.size⟩); have O2 := hidL (C1.out.le); have C1x2 := hidL (C1.out.keep hb); have BD : Hid (Below w1.heap.size w1 (ut2.alloc (.cells #[.int .i64 s, .slice va vn vc, .slice vb vm vd] 29))) := B2.out.alloc B2.out.size _; have hXw : w1.heap.size ≤ ut2.heap.size := B2.out.size; have FIN := hidL (show Below w1.heap.size w1 (ut2.alloc (.cells #[.int .i64 s, .slice va vn vc, .slice vb vm vd] 29)) ∧ At ut2.heap.size (ut2.heap.size + 1) (Bx ut2.heap.size [.int .i64 s, .slice va vn vc, .slice vb vm vd]) (ut2.alloc (.cells #[.int .i64 s, .slice va vn vc, .slice vb vm vd] 29)) ∧ w1.heap.size ≤ ut2.heap.size ∧ At w1.drew.heap.size ut1.heap.size (HLn va vn vc l) (ut2.alloc (.cells #[.int .i64 s, .slice va vn vc, .slice vb vm vd] 29)) ∧ (ut2.heap.size < w1.drew.heap.size ∨ ut1.heap.size ≤ ut2.heap.size) ∧ w1.heap.size ≤ w1.drew.heap.size ∧ w1.drew.heap.size ≤ ut1.heap.size ∧ At ut1.heap.size ut2.heap.size (BLn vb vm vd (bodyL hd bl)) (ut2.alloc (.cells #[.int .i64 s, .slice va vn vc, .slice vb vm vd] 29)) ∧ (ut2.heap.size < ut1.heap.size ∨ ut2.heap.size ≤ ut2.heap.size) ∧ w1.heap.size ≤ ut1.heap.size ∧ ut1.heap.size ≤ ut2.heap.size ∧ ut1.heap.size ≤ ut1.heap.size from ⟨BD.out, (Bx.newAt rfl [.int .i64 s, .slice va vn vc, .slice vb vm vd] _), hXw, (C1x2.out.al _), (.inr C1x2.out.le), M1.out.1, M1.out.2, (C2.out.al _), (.inr C2.out.le), M2.out.1, M2.out.2, O2.out⟩); clear hb hXw; clear HBB)
            | (have HBB : Hid (Below w1.heap.size w1 (ut1.alloc (.cells #[.int .i64 0, .slice none 0 0, .slice none 0 0] 29))) := (B1.out.alloc B1.out.size _); (with_reducible refine (CB.out (ut1.alloc (.cells #[.int .i64 0, .slice none 0 0, .slice none 0 0] 29)) (K1.out.1.trans (HBB.out.mono K1.out.1.size))).mono ?_); rintro e0 ut2 ⟨⟨vb, vm, vd, rfl, ca⟩, hb⟩; have B2 : Hid (Below w1.heap.size w1 ut2) := HBB.out.trans (hb.mono HBB.out.size); have C2 : Hid (At (ut1.alloc (.cells #[.int .i64 0, .slice none 0 0, .slice none 0 0] 29)).heap.size ut2.heap.size (BLn vb vm vd (bodyL hd bl)) ut2) := ca; clear ca; have M2 := hidL (show w1.heap.size ≤ (ut1.alloc (.cells #[.int .i64 0, .slice none 0 0, .slice none 0 0] 29)).heap.size ∧ (ut1.alloc (.cells #[.int .i64 0, .slice none 0 0, .slice none 0 0] 29)).heap.size ≤ ut2.heap.size from ⟨HBB.out.size, hb.size⟩); have O2 := hidL ((C1.out.al (.cells #[.int .i64 0, .slice none 0 0, .slice none 0 0] 29)).le); have D2 := hidL (show ut1.heap.size < (ut1.alloc (.cells #[.int .i64 0, .slice none 0 0, .slice none 0 0] 29)).heap.size ∨ ut2.heap.size ≤ ut1.heap.size from .inl (by simp)); have C1x2 := hidL ((C1.out.al (.cells #[.int .i64 0, .slice none 0 0, .slice none 0 0] 29)).keep hb); have D1 := hidL (C1.out.le); have Z2x2 := hidL ((Bx.newAt (X := ut1) rfl [.int .i64 0, .slice none 0 0, .slice none 0 0] 29).keep hb); have hXw : w1.heap.size ≤ ut1.heap.size := B1.out.size; have y0 : At ut1.heap.size (ut1.heap.size + 1) (Bx ut1.heap.size [.int .i64 s, .slice none 0 0, .slice none 0 0]) _ := Bx.put Z2x2.out 0 (.int .i64 s) (by simp); have y1 : At ut1.heap.size (ut1.heap.size + 1) (Bx ut1.heap.size [.int .i64 s, .slice va vn vc, .slice none 0 0]) _ := Bx.put y0 1 (.slice va vn vc) (by simp); have y2 : At ut1.heap.size (ut1.heap.size + 1) (Bx ut1.heap.size [.int .i64 s, .slice va vn vc, .slice vb vm vd]) _ := Bx.put y1 2 (.slice vb vm vd) (by simp); have BD : Hid (Below w1.heap.size w1 (((ut2.setCell ⟨ut1.heap.size, 0, none⟩ (.int .i64 s)).setCell ⟨ut1.heap.size, 1, none⟩ (.slice va vn vc)).setCell ⟨ut1.heap.size, 2, none⟩ (.slice vb vm vd))) := (((B2.out.setCell hXw _).setCell hXw _).setCell hXw _); have FIN := hidL (show Below w1.heap.size w1 (((ut2.setCell ⟨ut1.heap.size, 0, none⟩ (.int .i64 s)).setCell ⟨ut1.heap.size, 1, none⟩ (.slice va vn vc)).setCell ⟨ut1.heap.size, 2, none⟩ (.slice vb vm vd)) ∧ At ut1.heap.size (ut1.heap.size + 1) (Bx ut1.heap.size [.int .i64 s, .slice va vn vc, .slice vb vm vd]) (((ut2.setCell ⟨ut1.heap.size, 0, none⟩ (.int .i64 s)).setCell ⟨ut1.heap.size, 1, none⟩ (.slice va vn vc)).setCell ⟨ut1.heap.size, 2, none⟩ (.slice vb vm vd)) ∧ w1.heap.size ≤ ut1.heap.size ∧ At w1.drew.heap.size ut1.heap.size (HLn va vn vc l) (((ut2.setCell ⟨ut1.heap.size, 0, none⟩ (.int .i64 s)).setCell ⟨ut1.heap.size, 1, none⟩ (.slice va vn vc)).setCell ⟨ut1.heap.size, 2, none⟩ (.slice vb vm vd)) ∧ (ut1.heap.size < w1.drew.heap.size ∨ ut1.heap.size ≤ ut1.heap.size) ∧ w1.heap.size ≤ w1.drew.heap.size ∧ w1.drew.heap.size ≤ ut1.heap.size ∧ At (ut1.alloc (.cells #[.int .i64 0, .slice none 0 0, .slice none 0 0] 29)).heap.size ut2.heap.size (BLn vb vm vd (bodyL hd bl)) (((ut2.setCell ⟨ut1.heap.size, 0, none⟩ (.int .i64 s)).setCell ⟨ut1.heap.size, 1, none⟩ (.slice va vn vc)).setCell ⟨ut1.heap.size, 2, none⟩ (.slice vb vm vd)) ∧ (ut1.heap.size < (ut1.alloc (.cells #[.int .i64 0, .slice none 0 0, .slice none 0 0] 29)).heap.size ∨ ut2.heap.size ≤ ut1.heap.size) ∧ w1.heap.size ≤ (ut1.alloc (.cells #[.int .i64 0, .slice none 0 0, .slice none 0 0] 29)).heap.size ∧ (ut1.alloc (.cells #[.int .i64 0, .slice none 0 0, .slice none 0 0] 29)).heap.size ≤ ut2.heap.size ∧ ut1.heap.size ≤ (ut1.alloc (.cells #[.int .i64 0, .slice none 0 0, .slice none 0 0] 29)).heap.size from ⟨BD.out, y2, hXw, (((C1x2.out.set (.int .i64 s) (.inr D1.out)).set (.slice va vn vc) (.inr D1.out)).set (.slice vb vm vd) (.inr D1.out)), (.inr D1.out), M1.out.1, M1.out.2, (((C2.out.set (.int .i64 s) D2.out).set (.slice va vn vc) D2.out).set (.slice vb vm vd) D2.out), D2.out, M2.out.1, M2.out.2, O2.out⟩); have z0 := Z2x2.out.val.1 0 _ rfl; have zf0 := Z2x2.out.val.2 0; have z1 := Z2x2.out.val.1 1 _ rfl; have zf1 := Z2x2.out.val.2 1; have z2 := Z2x2.out.val.1 2 _ rfl; have zf2 := Z2x2.out.val.2 2; clear hb hXw y0 y1 y2; clear HBB)))
      all_goals (go_wp2_with fail; go_meet; exact ⟨_, _, _, _, _, va, vn, vc, vb, vm, vd, rfl, FIN.out⟩)
    case rest =>
    obtain ⟨Xt, lt1, ht1, lt2, ht2, va, vn, vc, vb, vm, vd, rfl, r0, r1, r2, r3, r4, r5, r6, r7, r8, r9, r10, r11⟩ := hcut
    have K2 : Hid (Below w.heap.size w wc ∧ At w.heap.size (w.heap.size + 1) (Bx w.heap.size [.int .i64 s, .slice a n cap, .slice b bn bc]) wc ∧ At (w.heap.size + 1) (w.heap.size + 1 + 1) (Bx (w.heap.size + 1) [.int .i64 0, .int .i64 0, .slice none 0 0, .slice none 0 0]) wc ∧ At Xt (Xt + 1) (Bx Xt [.int .i64 s, .slice va vn vc, .slice vb vm vd]) wc ∧ At lt1 ht1 (HLn va vn vc l) wc ∧ At lt2 ht2 (BLn vb vm vd (bodyL hd bl)) wc) := ⟨K1.out.1.trans (r0.mono K1.out.1.size), K1.out.2.1.keep r0, K1.out.2.2.keep r0, r1, r3, r7⟩
    have O2 : Hid ((Xt < lt1 ∨ ht1 ≤ Xt) ∧ (Xt < lt2 ∨ ht2 ≤ Xt) ∧ ht1 ≤ lt2 ∧ lt1 ≤ ht1 ∧ lt2 ≤ ht2 ∧ w.heap.size + 1 + 1 ≤ lt1 ∧ w.heap.size + 1 + 1 ≤ Xt) := ⟨r4, r8, r11, r6, r10, Nat.le_trans K1.out.2.2.le r5, Nat.le_trans K1.out.2.2.le r2⟩
    clear r0 r1 r2 r3 r4 r5 r6 r7 r8 r9 r10 r11 K1 CL CB
    generalize wc = w2 at *
    have q1 := K2.out.2.1.val.1 1 _ rfl
    go_wp2_with fail
    refine (CS.out w2 K2.out.1).mono ?_
    rintro e w3 ⟨⟨sc, sa, sn, sk, rfl, hs⟩, hb3⟩
    clear q1
    obtain ⟨V, hV⟩ : ∃ V, V = w3.alloc (.cells #[.int .i64 sc, .slice sa sn sk] 90) := ⟨_, rfl⟩
    have HV : Hid (V = w3.alloc (.cells #[.int .i64 sc, .slice sa sn sk] 90)) := hV
    have aV : Below w3.heap.size w3 V := by rw [hV]; exact (Below.refl _ _).alloc (Nat.le_refl _) _
    have b23 := hb3.trans (aV.mono hb3.size)
    have K3 : Hid (Below w.heap.size w V ∧ At (w.heap.size + 1) (w.heap.size + 1 + 1) (Bx (w.heap.size + 1) [.int .i64 0, .int .i64 0, .slice none 0 0, .slice none 0 0]) V ∧ At Xt (Xt + 1) (Bx Xt [.int .i64 s, .slice va vn vc, .slice vb vm vd]) V ∧ At lt1 ht1 (HLn va vn vc l) V ∧ At lt2 ht2 (BLn vb vm vd (bodyL hd bl)) V ∧ At w3.heap.size (w3.heap.size + 1) (Bx w3.heap.size [.int .i64 sc, .slice sa sn sk]) V) := ⟨K2.out.1.trans (b23.mono K2.out.1.size), K2.out.2.2.1.keep b23, K2.out.2.2.2.1.keep b23, K2.out.2.2.2.2.1.keep b23, K2.out.2.2.2.2.2.keep b23, by rw [hV]; exact Bx.new _ _ _⟩
    have O3 : Hid (Xt + 1 ≤ w2.heap.size ∧ ht2 ≤ w2.heap.size ∧ w2.heap.size ≤ w3.heap.size) := ⟨K2.out.2.2.2.1.le, K2.out.2.2.2.2.2.le, hb3.size⟩
    have HS3 : Hid (sc = 0 ∧ At w2.heap.size w3.heap.size (HLn sa sn sk (relayL l)) V ∨ sc = 2 ∧ relayL l = l) := by
      rcases hs with ⟨e0, h⟩ | h
      · exact .inl ⟨e0, h.keep aV⟩
      · exact .inr h
    clear hs hb3 hV aV b23 K2 CS
    rcases HS3.out with ⟨rfl, hs⟩ | ⟨rfl, hr⟩
    · have HSL : Hid (At w2.heap.size w3.heap.size (HLn sa sn sk (relayL l)) V) := hs
      clear hs
      clear HS3
      have g0 : V.cell? ⟨w3.heap.size, 0, none⟩ = some (.int .i64 0) := K3.out.2.2.2.2.2.val.1 0 _ rfl
      have g1 : V.cell? ⟨w3.heap.size, 1, none⟩ = some (.slice sa sn sk) := K3.out.2.2.2.2.2.val.1 1 _ rfl
      have t0 := K3.out.2.2.1.val.1 0 _ rfl
      have t1 := K3.out.2.2.1.val.1 1 _ rfl
      have t2 := K3.out.2.2.1.val.1 2 _ rfl
      have tf := K3.out.2.2.1.val.2 1
      have z0 := K3.out.2.1.val.1 0 _ rfl
      have z1 := K3.out.2.1.val.1 1 _ rfl
      have z2 := K3.out.2.1.val.1 2 _ rfl
      have z3 := K3.out.2.1.val.1 3 _ rfl
      have zf0 := K3.out.2.1.val.2 0
      have zf1 := K3.out.2.1.val.2 1
      have zf2 := K3.out.2.1.val.2 2
      have zf3 := K3.out.2.1.val.2 3
      have HF : Hid (At w.heap.size (((((V.setCell ⟨Xt, 1, none⟩ (.slice sa sn sk)).setCell ⟨w.heap.size + 1, 0, none⟩ (.int .i64 0)).setCell ⟨w.heap.size + 1, 1, none⟩ (.int .i64 s)).setCell ⟨w.heap.size + 1, 2, none⟩ (.slice sa sn sk)).setCell ⟨w.heap.size + 1, 3, none⟩ (.slice vb vm vd)).heap.size (RR (relayL l) (bodyL hd bl) sa sn sk vb vm vd) (((((V.setCell ⟨Xt, 1, none⟩ (.slice sa sn sk)).setCell ⟨w.heap.size + 1, 0, none⟩ (.int .i64 0)).setCell ⟨w.heap.size + 1, 1, none⟩ (.int .i64 s)).setCell ⟨w.heap.size + 1, 2, none⟩ (.slice sa sn sk)).setCell ⟨w.heap.size + 1, 3, none⟩ (.slice vb vm vd)) ∧ Below w.heap.size w (((((V.setCell ⟨Xt, 1, none⟩ (.slice sa sn sk)).setCell ⟨w.heap.size + 1, 0, none⟩ (.int .i64 0)).setCell ⟨w.heap.size + 1, 1, none⟩ (.int .i64 s)).setCell ⟨w.heap.size + 1, 2, none⟩ (.slice sa sn sk)).setCell ⟨w.heap.size + 1, 3, none⟩ (.slice vb vm vd))) := by
        have o2 := O2.out
        have o3 := O3.out
        have bb := K3.out.1
        have c1 : At w2.heap.size w3.heap.size (HLn sa sn sk (relayL l)) (((((V.setCell ⟨Xt, 1, none⟩ (.slice sa sn sk)).setCell ⟨w.heap.size + 1, 0, none⟩ (.int .i64 0)).setCell ⟨w.heap.size + 1, 1, none⟩ (.int .i64 s)).setCell ⟨w.heap.size + 1, 2, none⟩ (.slice sa sn sk)).setCell ⟨w.heap.size + 1, 3, none⟩ (.slice vb vm vd)) := (((((HSL.out.set (.slice sa sn sk) (by have := O2.out; have := O3.out; omega)).set _ (.inl (by have := O2.out; have := O3.out; omega))).set _ (.inl (by have := O2.out; have := O3.out; omega))).set _ (.inl (by have := O2.out; have := O3.out; omega))).set _ (.inl (by have := O2.out; have := O3.out; omega)))
        have c2 : At lt2 ht2 (BLn vb vm vd (bodyL hd bl)) (((((V.setCell ⟨Xt, 1, none⟩ (.slice sa sn sk)).setCell ⟨w.heap.size + 1, 0, none⟩ (.int .i64 0)).setCell ⟨w.heap.size + 1, 1, none⟩ (.int .i64 s)).setCell ⟨w.heap.size + 1, 2, none⟩ (.slice sa sn sk)).setCell ⟨w.heap.size + 1, 3, none⟩ (.slice vb vm vd)) := (((((K3.out.2.2.2.2.1.set (.slice sa sn sk) (by have := O2.out; have := O3.out; omega)).set _ (.inl (by have := O2.out; have := O3.out; omega))).set _ (.inl (by have := O2.out; have := O3.out; omega))).set _ (.inl (by have := O2.out; have := O3.out; omega))).set _ (.inl (by have := O2.out; have := O3.out; omega)))
        have e1 := c1.le
        have e2 := c2.le
        have bb2 : Below w.heap.size w (((((V.setCell ⟨Xt, 1, none⟩ (.slice sa sn sk)).setCell ⟨w.heap.size + 1, 0, none⟩ (.int .i64 0)).setCell ⟨w.heap.size + 1, 1, none⟩ (.int .i64 s)).setCell ⟨w.heap.size + 1, 2, none⟩ (.slice sa sn sk)).setCell ⟨w.heap.size + 1, 3, none⟩ (.slice vb vm vd)) := ((((bb.setCell (by show _ ≤ Xt; omega) _).setCell (by simp) _).setCell (by simp) _).setCell (by simp) _).setCell (by simp) _
        exact ⟨⟨Nat.le_refl _, RR.dep _ _ _ _ _ _ _ _ _ _, c1.val.1, c2.val.1, c1.val.2.wide (by omega) e1, c2.val.2.wide (by omega) e2, Ap.of c1.val.2.2 c2.val.2.2 (.inr (by omega))⟩, bb2⟩
      have hne1 : (⟨Xt, 1, none⟩ : Addr) ≠ ⟨w.heap.size + 1, 0, none⟩ := fun q => (by have := congrArg Addr.block q; have := O2.out; simp only at *; omega)
      go_upto_region 7 with fail
      rw [← HV.out]
      clear HV
      obtain ⟨Y, hY⟩ : ∃ Y, Y = V.setCell ⟨Xt, 1, none⟩ (.slice sa sn sk) := ⟨_, rfl⟩
      have HY : Hid (Y = V.setCell ⟨Xt, 1, none⟩ (.slice sa sn sk)) := hY
      have kt : At Xt (Xt + 1) (Bx Xt [.int .i64 s, .slice sa sn sk, .slice vb vm vd]) Y := by rw [hY]; exact Bx.put K3.out.2.2.1 1 (.slice sa sn sk) (by simp)
      have kz : At (w.heap.size + 1) (w.heap.size + 1 + 1) (Bx (w.heap.size + 1) [.int .i64 0, .int .i64 0, .slice none 0 0, .slice none 0 0]) Y := by rw [hY]; exact K3.out.2.1.set _ (.inr (by have := O2.out; omega))
      rw [← HY.out] at HF
      clear z0 z1 z2 z3 zf0 zf1 zf2 zf3 hne1 t0 t2
      go_upto_region 8 with fail
      rw [← HY.out]
      clear t1 tf g0 g1 HY hY
      have z0 := kz.val.1 0 _ rfl
      have z1 := kz.val.1 1 _ rfl
      have z2 := kz.val.1 2 _ rfl
      have z3 := kz.val.1 3 _ rfl
      have zf0 := kz.val.2 0
      have zf1 := kz.val.2 1
      have zf2 := kz.val.2 2
      have zf3 := kz.val.2 3
      have t0 := kt.val.1 0 _ rfl
      have t1 := kt.val.1 1 _ rfl
      have t2 := kt.val.1 2 _ rfl
      clear kz kt
      clear K3 O2 O3
      go_wp2_with fail
      exact bodyPost_ret (v := .agg #[.int .i64 0, .int .i64 s, .slice sa sn sk, .slice vb vm vd]) (by simp [results, Tryz.results10, go_sem, z0, z1, z2, z3]) rfl ⟨HGOOD.out _ _ _ _ _ _ _ HF.out.1, HF.out.2⟩
    · have HRL : Hid (relayL l = l) := hr
      clear hr
      clear HS3
      have g0 : V.cell? ⟨w3.heap.size, 0, none⟩ = some (.int .i64 2) := K3.out.2.2.2.2.2.val.1 0 _ rfl
      have g1 : V.cell? ⟨w3.heap.size, 1, none⟩ = some (.slice sa sn sk) := K3.out.2.2.2.2.2.val.1 1 _ rfl
      have t0 := K3.out.2.2.1.val.1 0 _ rfl
      have t1 := K3.out.2.2.1.val.1 1 _ rfl
      have t2 := K3.out.2.2.1.val.1 2 _ rfl
      have tf := K3.out.2.2.1.val.2 1
      have z0 := K3.out.2.1.val.1 0 _ rfl
      have z1 := K3.out.2.1.val.1 1 _ rfl
      have z2 := K3.out.2.1.val.1 2 _ rfl
      have z3 := K3.out.2.1.val.1 3 _ rfl
      have zf0 := K3.out.2.1.val.2 0
      have zf1 := K3.out.2.1.val.2 1
      have zf2 := K3.out.2.1.val.2 2
      have zf3 := K3.out.2.1.val.2 3
      have HF : Hid (At w.heap.size ((((V.setCell ⟨w.heap.size + 1, 0, none⟩ (.int .i64 0)).setCell ⟨w.heap.size + 1, 1, none⟩ (.int .i64 s)).setCell ⟨w.heap.size + 1, 2, none⟩ (.slice va vn vc)).setCell ⟨w.heap.size + 1, 3, none⟩ (.slice vb vm vd)).heap.size (RR (relayL l) (bodyL hd bl) va vn vc vb vm vd) ((((V.setCell ⟨w.heap.size + 1, 0, none⟩ (.int .i64 0)).setCell ⟨w.heap.size + 1, 1, none⟩ (.int .i64 s)).setCell ⟨w.heap.size + 1, 2, none⟩ (.slice va vn vc)).setCell ⟨w.heap.size + 1, 3, none⟩ (.slice vb vm vd)) ∧ Below w.heap.size w ((((V.setCell ⟨w.heap.size + 1, 0, none⟩ (.int .i64 0)).setCell ⟨w.heap.size + 1, 1, none⟩ (.int .i64 s)).setCell ⟨w.heap.size + 1, 2, none⟩ (.slice va vn vc)).setCell ⟨w.heap.size + 1, 3, none⟩ (.slice vb vm vd))) := by
        have o2 := O2.out
        have o3 := O3.out
        have bb := K3.out.1
        have c1 : At lt1 ht1 (HLn va vn vc l) ((((V.setCell ⟨w.heap.size + 1, 0, none⟩ (.int .i64 0)).setCell ⟨w.heap.size + 1, 1, none⟩ (.int .i64 s)).setCell ⟨w.heap.size + 1, 2, none⟩ (.slice va vn vc)).setCell ⟨w.heap.size + 1, 3, none⟩ (.slice vb vm vd)) := ((((K3.out.2.2.2.1.set _ (.inl (by have := O2.out; have := O3.out; omega))).set _ (.inl (by have := O2.out; have := O3.out; omega))).set _ (.inl (by have := O2.out; have := O3.out; omega))).set _ (.inl (by have := O2.out; have := O3.out; omega)))
        have c2 : At lt2 ht2 (BLn vb vm vd (bodyL hd bl)) ((((V.setCell ⟨w.heap.size + 1, 0, none⟩ (.int .i64 0)).setCell ⟨w.heap.size + 1, 1, none⟩ (.int .i64 s)).setCell ⟨w.heap.size + 1, 2, none⟩ (.slice va vn vc)).setCell ⟨w.heap.size + 1, 3, none⟩ (.slice vb vm vd)) := ((((K3.out.2.2.2.2.1.set _ (.inl (by have := O2.out; have := O3.out; omega))).set _ (.inl (by have := O2.out; have := O3.out; omega))).set _ (.inl (by have := O2.out; have := O3.out; omega))).set _ (.inl (by have := O2.out; have := O3.out; omega)))
        have e1 := c1.le
        have e2 := c2.le
        have bb2 : Below w.heap.size w ((((V.setCell ⟨w.heap.size + 1, 0, none⟩ (.int .i64 0)).setCell ⟨w.heap.size + 1, 1, none⟩ (.int .i64 s)).setCell ⟨w.heap.size + 1, 2, none⟩ (.slice va vn vc)).setCell ⟨w.heap.size + 1, 3, none⟩ (.slice vb vm vd)) := (((bb.setCell (by simp) _).setCell (by simp) _).setCell (by simp) _).setCell (by simp) _
        exact ⟨⟨Nat.le_refl _, RR.dep _ _ _ _ _ _ _ _ _ _, by rw [HRL.out]; exact c1.val.1, c2.val.1, by rw [HRL.out]; exact c1.val.2.wide (by omega) e1, c2.val.2.wide (by omega) e2, Ap.of c1.val.2.2 c2.val.2.2 (.inl (by omega))⟩, bb2⟩
      go_upto_region 8 with fail
      rw [← HV.out]
      clear HV
      clear K3 O2 O3
      go_wp2_with fail
      exact bodyPost_ret (v := .agg #[.int .i64 0, .int .i64 s, .slice va vn vc, .slice vb vm vd]) (by simp [results, Tryz.results10, go_sem, z0, z1, z2, z3]) rfl ⟨HGOOD.out _ _ _ _ _ _ _ HF.out.1, HF.out.2⟩
  · have HB : Hid (∀ w', RelayRes s l hd bl w w' (.returned (.agg #[.int .i64 (respC s l bl.length), .int .i64 0, .slice none 0 0, .slice none 0 0]))) := fun w' => RelayRes.bad rfl hc
    clear HP hl hbl CL CB CS
    generalize respC s l bl.length = c at *
    generalize l.length = n at *
    generalize bl.length = bn at *
    go_enter Tryz.func10, Tryz.ntmps10
    go_wp2_with fail
    rw [← HW.out]
    refine (CF.out W KW.out.1).mono ?_
    rintro e w1 ⟨rfl, hb1⟩
    have K1 : Hid (Below w.heap.size w w1 ∧ At (w.heap.size + 1) (w.heap.size + 1 + 1) (Bx (w.heap.size + 1) [.int .i64 0, .int .i64 0, .slice none 0 0, .slice none 0 0]) w1) := ⟨KW.out.1.trans (hb1.mono KW.out.1.size), KW.out.2.2.keep hb1⟩
    clear hb1 KW HW CF
    have z0 := K1.out.2.val.1 0 _ rfl
    have z1 := K1.out.2.val.1 1 _ rfl
    have z2 := K1.out.2.val.1 2 _ rfl
    have z3 := K1.out.2.val.1 3 _ rfl
    have zf0 := K1.out.2.val.2 0
    have zf1 := K1.out.2.val.2 1
    have zf2 := K1.out.2.val.2 2
    have zf3 := K1.out.2.val.2 3
    go_wp2_with fail
    have bb := K1.out.1
    exact bodyPost_ret (v := .agg #[.int .i64 c, .int .i64 0, .slice none 0 0, .slice none 0 0]) (by simp [results, Tryz.results10, go_sem, z0, z1, z2, z3]) rfl ⟨HB.out _, (((bb.setCell (by simp) _).setCell (by simp) _).setCell (by simp) _).setCell (by simp) _⟩
end Go.Proofs.YtopkidfbkhjaeaaGreatDoor
/-
  The law of RelayOf.
-/
namespace Go.Proofs.YtopkidfbkhjaeaaGreatDoor
open Go.ChangeShapes Go.WideShapes Go.ChangeAt Go.RowKit Go.Sort
theorem relL_len {s : Int} {l : List Hdr} {bn : Nat} : (relL (respC s l bn) l).length ≤ 20 := by
  unfold relL
  split
  · exact relayL_len (resp_small (by assumption)).1
  · exact Nat.zero_le _
theorem relB_len {c : Int} {hd : Bool} {bl : List UInt8} (h : bl.length ≤ 1048576) : (relB c hd bl).length ≤ 1048576 := by
  unfold relB bodyL
  split
  · split
    · exact Nat.zero_le _
    · exact h
  · exact Nat.zero_le _
theorem lawRelayOf (E : Errs) (w : World) (s : Int) (a : Option Addr) (cap : Nat) (l : List Hdr) (b : Option Addr) (bc : Nat) (bl : List UInt8) (hd : Bool) (hset : SetIs w) (hE : ErrsIs w E) (hl : l.length ≤ maxLen) (hz : SmallHdrs l) (hi : HdsIn w a l) (hbl : bl.length ≤ maxLen) (hib : BIn w b bl) :
    Calls Tryz.prog 3 #[.agg #[.int .i64 s, .slice a l.length cap, .slice b bl.length bc], .bool hd] w fun e w' => e = .returned (.bool true) ∧ Below w.heap.size w w' := by
  have sz : ¬ szP 1048576 l bl.length < 0 → l.length ≤ 1048576 ∧ bl.length ≤ 1048576 := fun h => ⟨(szP_room (by omega) h).1, (szP_room (by omega) h).2.1⟩
  refine walk_Relay w s a l.length cap b bl.length bc hd (respC s l bl.length) (relS (respC s l bl.length) s) (szP 1048576 l bl.length) (CResp l bl) (RR (relL (respC s l bl.length) l) (relB (respC s l bl.length) hd bl)) (MRR (relL (respC s l bl.length) l) (relB (respC s l bl.length) hd bl)) ((1 + 2 * l.length + bl.length : Nat) : Int) ((1 + 2 * (relL (respC s l bl.length) l).length + (relB (respC s l bl.length) hd bl).length : Nat) : Int) ?_ ?_ ?_ ?_ ?_ ?_ ?_ ?_ ?_ ?_ ?_
  · exact fun X hX => szResponse_any X s a cap l b bl.length bc hl hz (hi.keep hX) hbl 1048576 (by omega) (by omega)
  · exact fun h X hX => respT w s a cap l b bc bl (sz h).1 (sz h).2 hi hib X hX
  · exact fun h => respQ s l bl (sz h).1 (sz h).2
  · exact fun h X lo hi K D c hb => respM s l bl (sz h).1 (sz h).2 1 (Nat.le_refl _) (by omega) w.heap.size X lo hi K D c hb
  · exact fun h X l1 h1 K D _ c => (specRelay_any X s (some ⟨K, 0, none⟩) l.length l (some ⟨D, 0, none⟩) bl.length bl hd (sz h).1 (sz h).2 (.inr ⟨K, 0, rfl, c.val.1.1.at0⟩) (.inr ⟨D, 0, rfl, c.val.2.1.1.at0⟩)).mono fun _ _ ⟨p, q⟩ => ⟨p, q⟩
  · exact fun h X l1 h1 K D hX c => (implRelay_any E X s (some ⟨K, 0, none⟩) l.length l (some ⟨D, 0, none⟩) bl.length bl hd (sz h).1 (sz h).2 (hset.below hX) (hE.below hX) (.inr ⟨K, 0, rfl, c.val.1.1.at0⟩) (.inr ⟨D, 0, rfl, c.val.2.1.1.at0⟩)).mono fun _ _ ⟨p, q⟩ => ⟨p, q⟩
  · exact fun h X la ha lb hb xa xn xk xb xm xl ya yn yk yb ym yl p q => rrQ _ _ _ _ (Nat.le_trans relL_len (by omega)) (relB_len (sz h).2) X la ha lb hb xa xn xk xb xm xl ya yn yk yb ym yl p q
  · exact fun h X lo hi ra rn rk rb rm rl hX p hb => rrM _ _ _ _ (Nat.le_trans relL_len (by omega)) (relB_len (sz h).2) w.heap.size X lo hi ra rn rk rb rm rl p hb hX.size
  · exact fun h X lo hi ra rn rk rb rm rl p => rrH _ _ _ _ (Nat.le_trans relL_len (by omega)) (relB_len (sz h).2) X lo hi ra rn rk rb rm rl p
  · omega
  · omega
end Go.Proofs.YtopkidfbkhjaeaaGreatDoor
/-
  Facts of the program as a whole that every card of this seat leans on: each reckoned by the kernel, each by itself.
-/
namespace Go.Proofs.YtopkidfbkhjaeaaGreatDoor
theorem pf_laid : laidOutB Tryz.prog = true := by kernel_rfl
theorem pf_maps : mapsRowed Tryz.prog = true := by kernel_rfl
theorem pf_stops : (Tryz.prog.stops == []) = true := by kernel_rfl
theorem pf_knobs : (Tryz.prog.stopKnobs == []) = true := by kernel_rfl
theorem pf_heard : Tryz.prog.stopsHeard = true := by kernel_rfl
theorem pf_enter : Tryz.prog.mayEnter = true := by kernel_rfl
theorem pf_prog : Tryz.pinned.checked.prog = Tryz.prog := by kernel_rfl
end Go.Proofs.YtopkidfbkhjaeaaGreatDoor
/-
  As many variables are read as are named.
-/
namespace Go.Proofs.YtopkidfbkhjaeaaGreatDoor
theorem trodVars_len {H : Type} {enc : TypeId × Value → H} {P : Program} {W : World} {sp : Nat → Bool} : ∀ {ns : List String} {gs : List (DataW H)} {ps : List MemPlace}, DataW.TrodVars enc P W sp ns gs ps → gs.length = ns.length
  | [], [], _, _ => rfl
  | [], _ :: _, _, h => h.elim
  | _ :: _, [], _, h => h.elim
  | n :: ns, d :: ds, ps, h => by
    obtain ⟨g, t, cs, fuel, p, q, h1, h2, h3, h4, hs, e⟩ := h
    simp [trodVars_len hs]
end Go.Proofs.YtopkidfbkhjaeaaGreatDoor
/-
  Head lines that came in, opened.
-/
namespace Go.Proofs.YtopkidfbkhjaeaaGreatDoor
open Go.ChangeShapes Go.WideShapes Go.ChangeAt Go.RowKit Go.Deep
theorem headerCells : Tryz.prog.cellsOf 130 = 2 := by kernel_rfl
theorem hOneS : Tryz.prog.cellsOf 9 = 1 := by kernel_rfl
theorem hdr_of {H : Type} {enc : TypeId × Value → H} {w : World} {base : Nat} {spare : Nat → Bool} {held : Bool} {fuel : Nat} {cs : List Value} {x : DataW H × List MemPlace}
    (h : DataW.trod enc Tryz.prog w base spare held fuel 130 cs = some x) : ∃ r : Hdr, cs = [.string r.name, .string r.value] ∧ r.name.size ≤ maxLen ∧ r.value.size ≤ maxLen := by
  obtain ⟨y0, y1, n, _, hl, h0, h2⟩ := trod_struct2 Tryz.underlying130 h
  rw [headerCells] at hl
  simp only [hOneS] at h0 h2
  obtain ⟨s0, e0, _, z0⟩ := DataW.trod_string Tryz.underlying9 h0
  obtain ⟨s2, e2, _, z2⟩ := DataW.trod_string Tryz.underlying9 h2
  match cs, hl with
  | [c0, c2], _ =>
    simp only [List.drop_zero, List.take_succ_cons, List.take_zero, List.drop_succ_cons, List.cons.injEq, and_true] at e0 e2
    exact ⟨⟨s0, s2⟩, by rw [e0, e2], z0, z2⟩
theorem open_headers {H : Type} {enc : TypeId × Value → H} {w : World} {base : Nat} {spare : Nat → Bool} {held : Bool} {fuel : Nat} {a : Option Addr} {len cap : Nat} {x : DataW H × List MemPlace}
    (h : DataW.trod enc Tryz.prog w base spare held fuel 22 [.slice a len cap] = some x) :
    ∃ l : List Hdr, l.length = len ∧ len ≤ maxLen ∧ SmallHdrs l ∧ (l = [] ∨ ∃ b off, a = some ⟨b, off, none⟩ ∧ HeadsAt w b off l) := by
  rcases open_slice Tryz.underlying22 h with ⟨hcs, _⟩ | ⟨A, len', cap', m, n, D, Pl, hcs, _, hl, hm, hmm, _, hel⟩
  · simp only [List.cons.injEq, Value.slice.injEq, and_true] at hcs
    obtain ⟨_, rfl, _⟩ := hcs
    exact ⟨[], rfl, by unfold maxLen; omega, fun i r hr => by simp at hr, .inl rfl⟩
  · simp only [List.cons.injEq, Value.slice.injEq, and_true] at hcs
    obtain ⟨rfl, rfl, rfl⟩ := hcs
    have hlm : len ≤ m := by rw [hmm]; split <;> omega
    have hrec : ∀ i, i < len → ∃ r : Hdr, w.cells? base (A.add (i * 2)) 2 = some [.string r.name, .string r.value] ∧ r.name.size ≤ maxLen ∧ r.value.size ≤ maxLen := by
      intro i hi
      obtain ⟨cs', hc, ht⟩ := hel i (by omega)
      rw [headerCells] at hc
      obtain ⟨r, rfl, z⟩ := hdr_of ht
      exact ⟨r, hc, z⟩
    obtain ⟨f, hf⟩ : ∃ f : Nat → Hdr, ∀ i, i < len → w.cells? base (A.add (i * 2)) 2 = some [.string (f i).name, .string (f i).value] ∧ (f i).name.size ≤ maxLen ∧ (f i).value.size ≤ maxLen := by
      classical
      refine ⟨fun i => if hi : i < len then (hrec i hi).choose else ⟨.empty, .empty⟩, fun i hi => ?_⟩
      simp only [dif_pos hi]
      exact (hrec i hi).choose_spec
    refine ⟨(List.range len).map f, by simp, by omega, ?_, ?_⟩
    · intro i r hr
      rw [List.getElem?_map] at hr
      obtain ⟨j, hj, rfl⟩ := Option.map_eq_some_iff.1 hr
      obtain ⟨hlt, rfl⟩ := List.getElem?_eq_some_iff.1 hj
      simp at hlt
      simpa using (hf i hlt).2
    · by_cases h0 : len = 0
      · subst h0; exact .inl rfl
      · obtain ⟨b, off, spot⟩ := A
        have cells : ∀ i, i < len → ∀ j, j < 2 → w.cell? ((⟨b, off, spot⟩ : Addr).add (i * 2 + j)) = ([.string (f i).name, .string (f i).value] : List Value)[j]? := by
          intro i hi j hj
          have c := (World.cells?_some (hf i hi).1).2.2 j hj
          rw [add_add] at c
          exact c
        have hs : spot = none := by
          have c := cells 0 (by omega) 0 (by omega)
          simp only [Nat.zero_mul, Nat.add_zero, List.getElem?_cons_zero] at c
          simpa [Addr.add] using World.cell?_spot c
        subst hs
        have hadd : ∀ i, (⟨b, off, none⟩ : Addr).add i = ⟨b, off + i, none⟩ := fun i => by unfold Addr.add; split <;> simp_all
        refine .inr ⟨b, off, rfl, fun i r hr => ?_⟩
        rw [List.getElem?_map] at hr
        obtain ⟨j, hj, rfl⟩ := Option.map_eq_some_iff.1 hr
        obtain ⟨hlt, rfl⟩ := List.getElem?_eq_some_iff.1 hj
        simp only [List.length_range] at hlt
        simp only [List.getElem_range]
        have q0 := cells i hlt 0 (by omega)
        have q1 := cells i hlt 1 (by omega)
        rw [hadd] at q0 q1
        exact ⟨by simpa using q0, by simpa [Nat.add_assoc] using q1⟩
end Go.Proofs.YtopkidfbkhjaeaaGreatDoor
/-
  A request and a response that came in by value, opened.
-/
namespace Go.Proofs.YtopkidfbkhjaeaaGreatDoor
open Go.ChangeShapes Go.WideShapes Go.ChangeAt Go.RowKit Go.Deep
theorem requestCells : Tryz.prog.cellsOf 40 = 4 := by kernel_rfl
theorem headsOne : Tryz.prog.cellsOf 22 = 1 := by kernel_rfl
theorem slice_cs {H : Type} {enc : TypeId × Value → H} {w : World} {base : Nat} {spare : Nat → Bool} {held : Bool} {fuel : Nat} {cs : List Value} {t e : TypeId} {x : DataW H × List MemPlace}
    (hu : Tryz.prog.underlying t = some (.slice e)) (h : DataW.trod enc Tryz.prog w base spare held fuel t cs = some x) : ∃ a len cap, cs = [.slice a len cap] := by
  rcases open_slice hu h with ⟨hcs, _⟩ | ⟨A, len', cap', m, n, D, Pl, hcs, _⟩
  · exact ⟨_, _, _, hcs⟩
  · exact ⟨_, _, _, hcs⟩
set_option maxRecDepth 100000 in
theorem open_request {H : Type} {enc : TypeId × Value → H} {w : World} {r : Reach} {b0 base : Nat} {spare : Nat → Bool} {held : Bool} {v : Value} {d : DataW H} {p : List MemPlace}
    (hv : Value.okWide Tryz.prog w r b0 40 v) (h : DataW.Trod enc Tryz.prog w base spare held 40 v d p) :
    ∃ (m h p : ByteArray) (a : Option Addr) (cap : Nat) (l : List Hdr), v = .agg #[.string m, .string h, .string p, .slice a l.length cap] ∧ m.size ≤ maxLen ∧ h.size ≤ maxLen ∧ p.size ≤ maxLen ∧ l.length ≤ maxLen ∧ SmallHdrs l ∧ (l = [] ∨ ∃ b off, a = some ⟨b, off, none⟩ ∧ HeadsAt w b off l) := by
  obtain ⟨cs, rfl, hsz⟩ := okWide_struct Tryz.underlying40 hv
  obtain ⟨fuel, hf0⟩ := h
  obtain ⟨xs, n, _, _, hl, hlen, hf⟩ := DataW.trod_struct Tryz.underlying40 hf0
  match xs, hlen with
  | [y0, y1, y2, y3], _ =>
    have h0 : DataW.trod enc Tryz.prog w base spare held n 9 (((Value.agg cs).cells.toList.drop 0).take (Tryz.prog.cellsOf 9)) = some y0 := hf 0 _ rfl
    have h1 : DataW.trod enc Tryz.prog w base spare held n 9 (((Value.agg cs).cells.toList.drop 1).take (Tryz.prog.cellsOf 9)) = some y1 := hf 1 _ rfl
    have h2 : DataW.trod enc Tryz.prog w base spare held n 9 (((Value.agg cs).cells.toList.drop 2).take (Tryz.prog.cellsOf 9)) = some y2 := hf 2 _ rfl
    have h3 : DataW.trod enc Tryz.prog w base spare held n 22 (((Value.agg cs).cells.toList.drop 3).take (Tryz.prog.cellsOf 22)) = some y3 := hf 3 _ rfl
    rw [hOneS] at h0 h1 h2
    rw [headsOne] at h3
    obtain ⟨s0, e0, _, z0⟩ := DataW.trod_string Tryz.underlying9 h0
    obtain ⟨s1, e1, _, z1⟩ := DataW.trod_string Tryz.underlying9 h1
    obtain ⟨s2, e2, _, z2⟩ := DataW.trod_string Tryz.underlying9 h2
    obtain ⟨a, len, cap, e3⟩ := slice_cs Tryz.underlying22 h3
    rw [e3] at h3
    obtain ⟨l, rfl, m3, s3, o3⟩ := open_headers h3
    refine ⟨s0, s1, s2, a, cap, l, ?_, z0, z1, z2, m3, s3, o3⟩
    have e : cs.toList = [.string s0, .string s1, .string s2, .slice a l.length cap] := by
      simp only [Value.cells] at e0 e1 e2 e3 hl
      rw [requestCells] at hl
      match hc : cs.toList, hl with
      | [c0, c1, c2, c3], _ =>
        rw [hc] at e0 e1 e2 e3
        simp only [List.drop_zero, List.take_succ_cons, List.take_zero, List.drop_succ_cons, List.cons.injEq, and_true] at e0 e1 e2 e3
        rw [e0, e1, e2, e3]
    congr 1
    exact Array.toList_inj.1 e
end Go.Proofs.YtopkidfbkhjaeaaGreatDoor
/-
  A response, a row of bytes, a list of texts that came in, opened.
-/
namespace Go.Proofs.YtopkidfbkhjaeaaGreatDoor
open Go.ChangeShapes Go.WideShapes Go.ChangeAt Go.RowKit Go.Deep
theorem bytesOne : Tryz.prog.cellsOf 5 = 1 := by kernel_rfl
theorem open_bytes {H : Type} {enc : TypeId × Value → H} {w : World} {base : Nat} {spare : Nat → Bool} {held : Bool} {fuel : Nat} {a : Option Addr} {len cap : Nat} {x : DataW H × List MemPlace}
    (h : DataW.trod enc Tryz.prog w base spare held fuel 23 [.slice a len cap] = some x) : ∃ l : List UInt8, l.length = len ∧ len ≤ maxLen ∧ BIn w a l := by
  rcases open_ints Tryz.underlying23 Tryz.underlying5 bytesOne h with ⟨hcs, _⟩ | ⟨A, l', c', zs, hcs, _, hl, hm, hz, _, hcell, hwz⟩
  · simp only [List.cons.injEq, Value.slice.injEq, and_true] at hcs
    obtain ⟨_, rfl, _⟩ := hcs
    exact ⟨[], rfl, by unfold maxLen; omega, .inl rfl⟩
  · simp only [List.cons.injEq, Value.slice.injEq, and_true] at hcs
    obtain ⟨rfl, rfl, rfl⟩ := hcs
    have hlz : len ≤ zs.length := by rw [hz]; split <;> omega
    refine ⟨(zs.take len).map fun z => UInt8.ofNat z.toNat, by simp; omega, by omega, ?_⟩
    by_cases h0 : len = 0
    · subst h0; exact .inl rfl
    · obtain ⟨b, off, spot⟩ := A
      have hc := hcell 0 (by omega)
      have hspot : spot = none := by simpa [Addr.add] using World.cell?_spot hc
      subst hspot
      have hadd : ∀ i, (⟨b, off, none⟩ : Addr).add i = ⟨b, off + i, none⟩ := fun i => by unfold Addr.add; split <;> simp_all
      refine .inr ⟨b, off, rfl, fun i c hr => ?_⟩
      rw [List.getElem?_map] at hr
      obtain ⟨z, hz1, rfl⟩ := Option.map_eq_some_iff.1 hr
      have hi : i < len := by have := (List.getElem?_eq_some_iff.1 hz1).1; simp at this; omega
      rw [List.getElem?_take_of_lt hi] at hz1
      have h1 := hcell i (by omega)
      rw [hadd, List.getD_eq_getElem?_getD, hz1] at h1
      rw [h1]
      have hw := hwz z (List.mem_of_getElem? hz1)
      simp only [Lit.wf, Bool.and_eq_true, decide_eq_true_eq] at hw
      have w1 : 0 ≤ z := hw.1
      have w2 : z ≤ 255 := hw.2
      have e : ((UInt8.ofNat z.toNat).toNat : Int) = z := by
        rw [UInt8.toNat_ofNat']
        omega
      rw [e]; rfl
theorem responseCells : Tryz.prog.cellsOf 25 = 3 := by kernel_rfl
theorem byteSOne : Tryz.prog.cellsOf 23 = 1 := by kernel_rfl
theorem intOne : Tryz.prog.cellsOf 2 = 1 := by kernel_rfl
set_option maxRecDepth 100000 in
theorem open_response {H : Type} {enc : TypeId × Value → H} {w : World} {r : Reach} {b0 base : Nat} {spare : Nat → Bool} {held : Bool} {v : Value} {d : DataW H} {p : List MemPlace}
    (hv : Value.okWide Tryz.prog w r b0 25 v) (h : DataW.Trod enc Tryz.prog w base spare held 25 v d p) :
    ∃ (z : Int) (a : Option Addr) (cap : Nat) (l : List Hdr) (b : Option Addr) (bc : Nat) (bl : List UInt8), v = .agg #[.int .i64 z, .slice a l.length cap, .slice b bl.length bc] ∧ l.length ≤ maxLen ∧ SmallHdrs l ∧ (l = [] ∨ ∃ b off, a = some ⟨b, off, none⟩ ∧ HeadsAt w b off l) ∧ bl.length ≤ maxLen ∧ BIn w b bl := by
  obtain ⟨cs, rfl, hsz⟩ := okWide_struct Tryz.underlying25 hv
  obtain ⟨fuel, hf0⟩ := h
  obtain ⟨xs, n, _, _, hl, hlen, hf⟩ := DataW.trod_struct Tryz.underlying25 hf0
  match xs, hlen with
  | [y0, y1, y2], _ =>
    have h0 : DataW.trod enc Tryz.prog w base spare held n 2 (((Value.agg cs).cells.toList.drop 0).take (Tryz.prog.cellsOf 2)) = some y0 := hf 0 _ rfl
    have h1 : DataW.trod enc Tryz.prog w base spare held n 22 (((Value.agg cs).cells.toList.drop 1).take (Tryz.prog.cellsOf 22)) = some y1 := hf 1 _ rfl
    have h2 : DataW.trod enc Tryz.prog w base spare held n 23 (((Value.agg cs).cells.toList.drop 2).take (Tryz.prog.cellsOf 23)) = some y2 := hf 2 _ rfl
    rw [intOne] at h0
    rw [headsOne] at h1
    rw [byteSOne] at h2
    obtain ⟨s0, e0, _⟩ := DataW.trod_int Tryz.underlying2 h0
    obtain ⟨a, len, cap, e1⟩ := slice_cs Tryz.underlying22 h1
    rw [e1] at h1
    obtain ⟨l, rfl, m3, s3, o3⟩ := open_headers h1
    obtain ⟨b, bn, bc, e2⟩ := slice_cs Tryz.underlying23 h2
    rw [e2] at h2
    obtain ⟨bl, rfl, m4, o4⟩ := open_bytes h2
    refine ⟨s0, a, cap, l, b, bc, bl, ?_, m3, s3, o3, m4, o4⟩
    have e : cs.toList = [.int .i64 s0, .slice a l.length cap, .slice b bl.length bc] := by
      simp only [Value.cells] at e0 e1 e2 hl
      rw [responseCells] at hl
      match hc : cs.toList, hl with
      | [c0, c1, c2], _ =>
        rw [hc] at e0 e1 e2
        simp only [List.drop_zero, List.take_succ_cons, List.take_zero, List.drop_succ_cons, List.cons.injEq, and_true] at e0 e1 e2
        rw [e0, e1, e2]
    congr 1
    exact Array.toList_inj.1 e
end Go.Proofs.YtopkidfbkhjaeaaGreatDoor
