/-
  Texts of one claim, one behind the other.
-/
import Derived.BigQuiet
import Derived.Deep.CutRange
import Derived.Deep.RegionHeld3
import Derived.Lib.QuietBelow
import Derived.Shelf.Strings.Cut
import Derived.Shelf.Strings.FieldsFuncAny
import Derived.Stop.LaidErr
import Derived.Test.YtmnblligifgcjaaGreatDoorNmC
/-
  What KeyOf and its model answer.
-/
namespace Go.Proofs.YtmnblligifgcjaaGreatDoor
open Go.ChangeShapes Go.WideShapes Go.ChangeAt Go.RowKit
def keyR (m h p : ByteArray) (l : List Hdr) : ByteArray := if reqC m h p l = 0 then hmk (keyT h p) else ⟨#[]⟩
theorem keyR_ok {m h p : ByteArray} {l : List Hdr} (c : reqC m h p l = 0) : keyR m h p l = hmk (keyT h p) := by rw [keyR, if_pos c]
theorem keyR_bad {m h p : ByteArray} {l : List Hdr} (c : ¬ reqC m h p l = 0) : keyR m h p l = ⟨#[]⟩ := by rw [keyR, if_neg c]
theorem qAt_pat : ∀ l : List UInt8, qAt l = patAt [63] l
  | [] => rfl
  | x :: r => by
    rw [qAt, patAt, pre_one, qAt_pat r]
    by_cases h : x = 63
    · simp [h]
    · simp [h]; try omega
theorem kcut_any (p : ByteArray) (w : World) (hm : MaxIs w) (hp : p.size ≤ 6000) :
    Calls Tryz.prog 107 #[.string p, .string ⟨#[63]⟩] w fun e w' => e = .returned (.tuple #[.string (hmk (p.data.toList.take (qAt p.data.toList))), .string (hmk (p.data.toList.drop (qAt p.data.toList + 1))), .bool (decide (qAt p.data.toList < p.data.toList.length))]) ∧ Below w.heap.size w w' := by
  obtain ⟨m, hm⟩ := hm
  have h := Any.strings_Cut Tryz.laysM145.ton145 p ⟨#[63]⟩ m w (by omega) hm
  rw [show (⟨#[63]⟩ : ByteArray).data.toList = [63] from rfl] at h
  rw [qAt_pat]
  by_cases c : patAt [63] p.data.toList < p.data.toList.length
  · rw [cut_pat (by simp) c] at h
    rw [decide_eq_true c]
    exact h.mono fun e w' ⟨h1, n, h2⟩ => ⟨h1, h2 ▸ below_drewN w n⟩
  · rw [cut_pat_no (by simp) c] at h
    rw [decide_eq_false c, List.take_of_length_le (by omega), List.drop_of_length_le (by omega)]
    exact h.mono fun e w' ⟨h1, n, h2⟩ => ⟨h1, h2 ▸ below_drewN w n⟩
theorem join_amp (w : World) (base : Nat) (v : Value) (xs : List ByteArray) (h : OwnS w base v xs) (hN : xs.length ≤ 1000000) (hlen : (Lib.join (xs.map (·.data.toList)) [38]).length ≤ 1000000) :
    Calls Tryz.prog 51 #[v, .string ⟨#[38]⟩] w fun e w' => e = .returned (.string ⟨(Lib.join (xs.map (·.data.toList)) [38]).toArray⟩) ∧ Below w.heap.size w w' := by
  have h0 := h
  obtain ⟨_, h1 | ⟨g, c, cur, rfl, _, hh, hcap, _⟩⟩ := h
  · have : xs = [] := List.eq_nil_of_length_eq_zero h1.2
    subst this
    rw [h1.1]
    exact (Any.strings_Join_none Tryz.lays156 joinExtra none 0 ⟨#[38]⟩ w).mono fun e w' ⟨he, hw⟩ => ⟨he, hw ▸ Below.refl _ _⟩
  · refine Any.strings_Join Tryz.lays156 joinExtra g 0 c xs ⟨#[38]⟩ w ?_ (Array.getElem?_eq_some_iff.1 hh).1 (by omega) hcap (by simpa using (by omega : (Lib.join (xs.map (·.data.toList)) [38]).length ≤ 140737488355328))
    intro j x hj
    have hj2 := (List.getElem?_eq_some_iff.1 hj).1
    have := World.ownsRow.cellAt h0 j (by omega)
    rw [show 0 + j = j from by omega]
    rw [this]
    simp [textsW, hj]
theorem hmk_back (S : List (List UInt8)) : (S.map hmk).map (·.data.toList) = S := by
  rw [List.map_map]
  have : ((fun x : ByteArray => x.data.toList) ∘ hmk) = id := by funext x; simp [hmk]
  rw [this, List.map_id]
theorem path_ascii {p : ByteArray} (h : pathS p = true) (k : Nat) : ∀ (i : Nat) (hi : i < (hmk (p.data.toList.drop k)).size), (hmk (p.data.toList.drop k))[i].toNat < 128 := by
  intro i hi
  have hm : (hmk (p.data.toList.drop k))[i] ∈ p.data.toList := by
    have h1 : (hmk (p.data.toList.drop k))[i] ∈ (hmk (p.data.toList.drop k)).data.toList := by
      show (hmk (p.data.toList.drop k)).data[i] ∈ _
      exact Array.mem_toList_iff.2 (Array.getElem_mem _)
    rw [hmk_list] at h1
    exact List.mem_of_mem_drop h1
  have h2 : allP pathI p.data.toList = true := by
    simp only [pathS, Bool.and_eq_true] at h
    exact h.2
  have h3 := allP_mem h2 _ hm
  by_cases c : (hmk (p.data.toList.drop k))[i].toNat < 128
  · exact c
  · rw [pathI_big _ (by omega)] at h3; cases h3
end Go.Proofs.YtmnblligifgcjaaGreatDoor
/-
  What the model's FullKey answers.
-/
namespace Go.Proofs.YtmnblligifgcjaaGreatDoor
open Go.ChangeShapes Go.WideShapes Go.ChangeAt Go.RowKit Go.Sort
/-- What one name adds. -/
def addN (l : List Hdr) (o : List UInt8) (nm : ByteArray) : List UInt8 := o ++ [32] ++ (lowS nm).data.toList ++ [61] ++ hjoinL (valsOf (lowS nm) l)
def fullL (h p : ByteArray) (l : List Hdr) (ns : List ByteArray) : List UInt8 := ns.foldl (addN l) (keyT h p)
theorem fullL_take {h p : ByteArray} {l : List Hdr} {ns : List ByteArray} {k : Nat} {x : ByteArray} (hx : ns[k]? = some x) : fullL h p l (ns.take (k + 1)) = addN l (fullL h p l (ns.take k)) x := by
  rw [List.take_add_one, hx]
  simp [fullL]
def fullC (m h p : ByteArray) (l : List Hdr) (ns : List ByteArray) : Int := if reqC m h p l = 0 then namesC ns else reqC m h p l
def fullR (m h p : ByteArray) (l : List Hdr) (ns : List ByteArray) : ByteArray := if fullC m h p l ns = 0 then hmk (fullL h p l ns) else ⟨#[]⟩
theorem fullC_bad {m h p : ByteArray} {l : List Hdr} {ns : List ByteArray} (c : ¬ reqC m h p l = 0) : fullC m h p l ns = reqC m h p l ∧ fullR m h p l ns = ⟨#[]⟩ := by
  have e : fullC m h p l ns = reqC m h p l := by rw [fullC, if_neg c]
  exact ⟨e, by rw [fullR, if_neg (by rw [e]; exact c)]⟩
theorem fullC_names {m h p : ByteArray} {l : List Hdr} {ns : List ByteArray} (c : reqC m h p l = 0) (c2 : ¬ namesC ns = 0) : fullC m h p l ns = namesC ns ∧ fullR m h p l ns = ⟨#[]⟩ := by
  have e : fullC m h p l ns = namesC ns := by rw [fullC, if_pos c]
  exact ⟨e, by rw [fullR, if_neg (by rw [e]; exact c2)]⟩
theorem fullC_ok {m h p : ByteArray} {l : List Hdr} {ns : List ByteArray} (c : reqC m h p l = 0) (c2 : namesC ns = 0) : fullC m h p l ns = 0 ∧ fullR m h p l ns = hmk (fullL h p l ns) := by
  have e : fullC m h p l ns = 0 := by rw [fullC, if_pos c]; exact c2
  exact ⟨e, by rw [fullR, if_pos e]⟩
theorem keyT_len {h p : ByteArray} (hh : h.size ≤ 60) (hp : p.size ≤ 100) : (keyT h p).length ≤ 500 := by
  have h1 := keyQ_len (keyParts p.data.toList)
  have h2 := keyParts_len p.data.toList
  have h3 := keyParts_sum p.data.toList
  have h4 : (lowS h).data.toList.length = (lowS h).size := by simp
  rw [hsize_list] at h2 h3
  rw [keyT, List.length_append, List.length_append, h4, lowS_size, List.length_take, hsize_list]
  omega
theorem addN_len {l : List Hdr} (h0 : headsC l = 0) {o : List UInt8} {x : ByteArray} (hx : wordS x = true) : (addN l o x).length ≤ o.length + 4200 := by
  have h1 := hword_max hx
  obtain ⟨h20, hz⟩ := heads_sizes h0
  have h2 := hjoinL_len (valsOf (lowS x) l) (valsOf_mem hz)
  have h3 := valsOf_len (lowS x) l
  have h4 : (lowS x).data.toList.length = (lowS x).size := by simp
  rw [lowS_size] at h4
  simp only [addN, List.length_append, List.length_cons, List.length_nil, h4]
  omega
theorem hjoin_len {l : List Hdr} (h0 : headsC l = 0) (x : ByteArray) : (hjoinL (valsOf x l)).length ≤ 4040 := by
  obtain ⟨h20, hz⟩ := heads_sizes h0
  have h2 := hjoinL_len (valsOf x l) (valsOf_mem hz)
  have h3 := valsOf_len x l
  omega
set_option maxRecDepth 100000 in
set_option maxHeartbeats 8000000 in
theorem l5Full_any (w : World) (B : Nat) (m h p : ByteArray) (a : Option Addr) (cap : Nat) (l : List Hdr) (c : Option Addr) (nc : Nat) (ns : List ByteArray) (F : Four w B (.string m) (.string h) (.string p) (.slice a l.length cap)) (hh : h.size ≤ 60) (hp : p.size ≤ 100) (h0 : headsC l = 0) (hi : HdsIn w a l) (hn : ns.length ≤ 4) (hw : wordsA ns = true) (ht : TIn w c ns) :
    Calls Tryz.prog 40 #[.pointer (some ⟨B, 0, none⟩), .slice c ns.length nc] w fun e w' => e = .returned (.string (hmk (fullL h p l ns))) ∧ Below w.heap.size w w' := by
  have C := l5Key_any w B m h p _ F hh hp
  obtain ⟨h20, hz⟩ := heads_sizes h0
  have HF : Hid (∀ X, Below w.heap.size w X → X.cell? ⟨B, 3, none⟩ = some (.slice a l.length cap)) := fun X hb => (F.keep hb).c3
  have HJ : Hid (∀ X (x : ByteArray), Below w.heap.size w X → wordS x = true → Calls Tryz.prog 59 #[.slice a l.length cap, .string x] X fun e w' => e = .returned (.tuple #[.string ⟨(hjoinL (valsOf (lowS x) l)).toArray⟩, .bool (anyV (valsOf (lowS x) l))]) ∧ Below X.heap.size X w') := fun X x hb hx => l4Join_any X a cap l x h20 hz (hword_max hx) (hi.keep hb)
  have HK : Hid ((keyT h p).length ≤ 500) := keyT_len hh hp
  have HL : Hid (headsC l = 0) := h0
  have HI : Hid (TIn w c ns) := ht
  have HW : Hid (wordsA ns = true) := hw
  have hs0 : (hmk (keyT h p)).size ≤ 500 := by rw [hmk_size]; exact keyT_len hh hp
  have HE0 : Hid ((hmk (keyT h p)).data.toList = fullL h p l (ns.take 0)) := by show _ = _; rw [hmk_list]; rfl
  clear hi F hz h20 ht hw h0 hh hp
  generalize hmk (keyT h p) = k0 at *
  generalize hnn : ns.length = n at *
  have HN : Hid (ns.length = n) := hnn
  clear hnn
  generalize l.length = ln at *
  go_enter Tryz.func40, Tryz.ntmps40
  go_wp2_with fail
  refine C.mono ?_
  rintro e w1 ⟨rfl, hb1⟩
  have HB1 : Hid (Below w.heap.size w w1) := hb1
  clear C hb1
  go_wp2_with fail
  go_loopw [5, 6] (fun v i wr => ∃ (k : Nat) (o : ByteArray), k ≤ n ∧ i = .int .i64 k ∧ v = .string o ∧ o.data.toList = fullL h p l (ns.take k) ∧ o.size ≤ 500 + k * 4200 ∧ Below w.heap.size w wr) (fun _ i _ => n - (intOf i).toNat)
  case atStart => exact ⟨0, k0, Nat.zero_le _, rfl, rfl, HE0.out, by omega, HB1.out⟩
  case round =>
    obtain ⟨k, o, hk, rfl, rfl, ho, hos, hb⟩ := hrel
    have HO : Hid (o.data.toList = fullL h p l (ns.take k)) := ho
    have HBR : Hid (Below w.heap.size w wr) := hb
    have hos2 : o.size ≤ 20000 := by omega
    clear ho HE0 HB1 hs0
    by_cases hlt : k < n
    · obtain ⟨x, hx⟩ : ∃ r, ns[k]? = some r := ⟨ns[k]'(by have := HN.out; omega), List.getElem?_eq_getElem _⟩
      have hwx := wordsA_mem HW.out hx
      have HT : Hid (fullL h p l (ns.take (k + 1)) = addN l (fullL h p l (ns.take k)) x) := fullL_take hx
      rcases HI.out with hh | ⟨b, off, rfl, hat⟩
      · subst hh; simp at hx
      have p1 := (hat.keep hb) k x hx
      have c3 := HF.out wr hb
      have x1 := cell_regrown p1
      have x3 := cell_regrown c3
      have hxm := hword_max hwx
      have hlm := HL.out
      have hjl := hjoin_len HL.out (lowS x)
      obtain ⟨jt, hjt⟩ : ∃ j : ByteArray, j = ⟨(hjoinL (valsOf (lowS x) l)).toArray⟩ := ⟨_, rfl⟩
      have sjt : jt.size ≤ 4040 := by rw [hjt]; show (hjoinL (valsOf (lowS x) l)).toArray.size ≤ 4040; rw [List.size_toArray]; exact hjl
      have cJ : ∀ d os, Calls Tryz.prog 59 #[.slice a ln cap, .string x] (grow (redrawn wr d) os) fun e w'' => e = .returned (.tuple #[.string jt, .bool (anyV (valsOf (lowS x) l))]) ∧ ∃ q : Regrown, w'' = grow (redrawn wr q.d) q.os := fun d os => by
        have h1 := HJ.out (grow (redrawn wr d) os) x (HBR.out.trans ((below_regrown wr d os).mono HBR.out.size)) hwx
        rw [← hjt] at h1
        exact Calls.regrown_of h1
      have HLW : Hid (∀ X, Calls Tryz.prog 67 #[.string x] X fun e w' => e = .returned (.string (lowS x)) ∧ Below X.heap.size X w') := fun X => l1Lower_any x X (by omega)
      have slw : (lowS x).size ≤ 64 := by rw [lowS_size]; exact hxm
      obtain ⟨lw, hlw⟩ : ∃ lw, lw = lowS x := ⟨_, rfl⟩
      have lit1 : (⟨#[32]⟩ : ByteArray).size = 1 := rfl
      have lit2 : (⟨#[61]⟩ : ByteArray).size = 1 := rfl
      obtain ⟨y1, hy1⟩ : ∃ y : ByteArray, y = o ++ ⟨#[32]⟩ := ⟨_, rfl⟩
      have s1 : y1.size = o.size + 1 := by rw [hy1, ByteArray.size_append, lit1]
      obtain ⟨y2, hy2⟩ : ∃ y : ByteArray, y = y1 ++ lw := ⟨_, rfl⟩
      have s2 : y2.size = y1.size + lw.size := by rw [hy2, ByteArray.size_append]
      obtain ⟨y3, hy3⟩ : ∃ y : ByteArray, y = y2 ++ ⟨#[61]⟩ := ⟨_, rfl⟩
      have s3 : y3.size = y2.size + 1 := by rw [hy3, ByteArray.size_append, lit2]
      obtain ⟨y4, hy4⟩ : ∃ y : ByteArray, y = y3 ++ jt := ⟨_, rfl⟩
      have s4 : y4.size = y3.size + jt.size := by rw [hy4, ByteArray.size_append]
      rw [← hlw] at slw HLW
      have a1 : ∀ X, (Op.stringOp .add o ⟨#[32]⟩).run Tryz.prog X = .ok (.string y1) X := fun X => by rw [hy1]; exact run_string_add_sum X _ _ (by omega)
      have a2 : ∀ X, (Op.stringOp .add y1 lw).run Tryz.prog X = .ok (.string y2) X := fun X => by rw [hy2]; exact run_string_add_sum X _ _ (by omega)
      have a3 : ∀ X, (Op.stringOp .add y2 ⟨#[61]⟩).run Tryz.prog X = .ok (.string y3) X := fun X => by rw [hy3]; exact run_string_add_sum X _ _ (by omega)
      have a4 : ∀ X, (Op.stringOp .add y3 jt).run Tryz.prog X = .ok (.string y4) X := fun X => by rw [hy4]; exact run_string_add_sum X _ _ (by omega)
      have HR : Hid (y4.data.toList = fullL h p l (ns.take (k + 1)) ∧ y4.size ≤ 500 + (k + 1) * 4200) := by
        refine ⟨?_, by omega⟩
        rw [HT.out, addN, hy4, hy3, hy2, hy1, happ_list, happ_list, happ_list, happ_list, HO.out, hjt, hlw]
      have g0 : (0 : Int) ≤ k := by omega
      have gk : (k : Int) < n := by omega
      have HCE : Hid (∀ X, Below wr.heap.size wr X → X.cell? ⟨b, off + k, none⟩ = some (.string x)) := fun X hb => by rw [hb.cell (p := ⟨b, off + k, none⟩) (block_lt_of_cell p1)]; exact p1
      clear hx hat HI p1 c3 hjt hlw lit1 lit2 hy1 hy2 hy3 hy4 s1 s2 s3 s4 HT hwx hjl hlm HJ hb
      generalize anyV (valsOf (lowS x) l) = av at *
      go_wp2_with fail
      refine wp_region_quiet_below (by kernel_rfl) (by kernel_rfl) ?_
      repeat (go_big_quiet_step ((go_at_call 59; exact cJ _ _)))
      refine wpQuiet_nil ?_
      intro w2 hw2
      have hb2 : Below wr.heap.size wr w2 := by
        obtain ⟨⟨d, os⟩, rfl⟩ := hw2
        exact below_regrown wr d os
      have HB2 : Hid (Below w.heap.size w w2) := HBR.out.trans (hb2.mono HBR.out.size)
      have px := HCE.out w2 hb2
      have C3 := HLW.out w2
      clear x1 x3 cJ hw2 hb2 HCE HLW HBR
      go_wp2_with fail
      refine C3.mono ?_
      rintro e w3 ⟨rfl, hb3⟩
      have HB3 : Hid (Below w.heap.size w w3) := HB2.out.trans (hb3.mono HB2.out.size)
      clear C3 hb3 px
      go_wp2_with fail
      go_roundw
      case rel => exact ⟨k + 1, y4, by omega, by go_num, rfl, HR.out.1, HR.out.2, HB3.out⟩
      case measure => simp [intOf]; omega
    · have ek : ns.take k = ns := List.take_of_length_le (by have := HN.out; omega)
      have HE : Hid (o = hmk (fullL h p l ns)) := by
        refine hof_list ?_
        rw [HO.out, ek]
      clear ek HO
      go_wp2_with fail
      go_ret
      exact ⟨congrArg (fun s => Ending.returned (.string s)) HE.out, hb⟩
set_option maxRecDepth 100000 in
set_option maxHeartbeats 4000000 in
theorem specFull_any (w : World) (m h p : ByteArray) (a : Option Addr) (cap : Nat) (l : List Hdr) (c : Option Addr) (nc : Nat) (ns : List ByteArray) (hl : l.length ≤ 1048576) (hn : ns.length ≤ 1048576) (hi : HdsIn w a l) (ht : TIn w c ns) :
    Calls Tryz.prog 15 #[.agg #[.string m, .string h, .string p, .slice a l.length cap], .slice c ns.length nc] w fun e w' => e = .returned (.agg #[.int .i64 (fullC m h p l ns), .string (fullR m h p l ns)]) ∧ Below w.heap.size w w' := by
  obtain ⟨W, hW⟩ : ∃ W, W = (w.alloc (.cells #[.string m, .string h, .string p, .slice a l.length cap] 42)).alloc (.cells #[.int .i64 0, .string ⟨#[]⟩] 29) := ⟨_, rfl⟩
  have HW : Hid (W = (w.alloc (.cells #[.string m, .string h, .string p, .slice a l.length cap] 42)).alloc (.cells #[.int .i64 0, .string ⟨#[]⟩] 29)) := hW
  have bW : Below w.heap.size w W := by rw [hW]; exact ((Below.refl _ _).alloc (Nat.le_refl _) _).alloc (by simp) _
  have f0 : Four W w.heap.size (.string m) (.string h) (.string p) (.slice a l.length cap) := by rw [hW]; exact (Four.new _ _ _ _ _ _).keep ((Below.refl _ _).alloc (Nat.le_refl _) _)
  have t0 : Two W (w.heap.size + 1) (.int .i64 0) (.string ⟨#[]⟩) := by
    rw [hW]
    have := Two.new (w.alloc (.cells #[.string m, .string h, .string p, .slice a l.length cap] 42)) (.int .i64 0) (.string ⟨#[]⟩) 29
    simpa using this
  have C := specReq_any W m h p a cap l hl (hi.keep bW)
  have K0 : Hid (Below w.heap.size w W ∧ Four W w.heap.size (.string m) (.string h) (.string p) (.slice a l.length cap) ∧ Two W (w.heap.size + 1) (.int .i64 0) (.string ⟨#[]⟩)) := ⟨bW, f0, t0⟩
  have HI : Hid (∀ X, Below w.heap.size w X → HdsIn X a l ∧ TIn X c ns) := fun X hb => ⟨hi.keep hb, ht.keep hb⟩
  have HCC : Hid ((¬ reqC m h p l = 0 → fullC m h p l ns = reqC m h p l ∧ fullR m h p l ns = ⟨#[]⟩) ∧ (reqC m h p l = 0 → ¬ namesC ns = 0 → fullC m h p l ns = namesC ns ∧ fullR m h p l ns = ⟨#[]⟩) ∧ (reqC m h p l = 0 → namesC ns = 0 → fullC m h p l ns = 0 ∧ fullR m h p l ns = hmk (fullL h p l ns)) ∧ (reqC m h p l = 0 → h.size ≤ 60 ∧ p.size ≤ 100 ∧ headsC l = 0)) := ⟨fun c0 => fullC_bad c0, fun c0 c1 => fullC_names c0 c1, fun c0 c1 => fullC_ok c0 c1, fun c0 => ⟨(method_size (reqC_zero c0).1).2.1, (method_size (reqC_zero c0).1).2.2, (reqC_zero c0).2.1⟩⟩
  clear hW bW f0 t0 hi ht
  generalize fullC m h p l ns = fc at *
  generalize fullR m h p l ns = fr at *
  generalize reqC m h p l = cc at *
  have hc3 := K0.out.2.1.c3
  rw [HW.out] at hc3
  go_enter Tryz.func15, Tryz.ntmps15
  go_wp2_with fail
  rw [← HW.out]
  refine C.mono ?_
  rintro e w1 ⟨rfl, hb1⟩
  have K1 : Hid (Below w.heap.size w w1 ∧ Four w1 w.heap.size (.string m) (.string h) (.string p) (.slice a l.length cap) ∧ Two w1 (w.heap.size + 1) (.int .i64 0) (.string ⟨#[]⟩)) := ⟨K0.out.1.trans (hb1.mono K0.out.1.size), K0.out.2.1.keep hb1, K0.out.2.2.keep hb1⟩
  clear C hb1 K0 HW hc3
  by_cases c0 : cc = 0
  · subst c0
    obtain ⟨z2, z3, y2⟩ := HCC.out.2.2.2 rfl
    have C4 := l5Names_any w1 c nc ns hn (HI.out w1 K1.out.1).2
    have HFL : Hid (namesC ns = 0 → ∀ X, Below w.heap.size w X → Four X w.heap.size (.string m) (.string h) (.string p) (.slice a l.length cap) → Calls Tryz.prog 40 #[.pointer (some ⟨w.heap.size, 0, none⟩), .slice c ns.length nc] X fun e w' => e = .returned (.string (hmk (fullL h p l ns))) ∧ Below X.heap.size X w') := fun hz X hb hF => l5Full_any X w.heap.size m h p a cap l c nc ns hF z2 z3 y2 (HI.out X hb).1 (names_zero hz).1 (names_zero hz).2 (HI.out X hb).2
    have HO : Hid (namesC ns = 0 → fc = 0 ∧ fr = hmk (fullL h p l ns)) := HCC.out.2.2.1 rfl
    have HB : Hid (¬ namesC ns = 0 → fc = namesC ns ∧ fr = ⟨#[]⟩) := HCC.out.2.1 rfl
    clear y2 z2 z3 HI hl hn HCC
    generalize hmk (fullL h p l ns) = ft at *
    generalize namesC ns = nm at *
    generalize ns.length = nn at *
    go_wp2_with fail
    refine C4.mono ?_
    rintro e w2 ⟨rfl, hb2⟩
    have K2 : Hid (Below w.heap.size w w2 ∧ Four w2 w.heap.size (.string m) (.string h) (.string p) (.slice a l.length cap) ∧ Two w2 (w.heap.size + 1) (.int .i64 0) (.string ⟨#[]⟩)) := ⟨K1.out.1.trans (hb2.mono K1.out.1.size), K1.out.2.1.keep hb2, K1.out.2.2.keep hb2⟩
    clear C4 hb2 K1
    by_cases d0 : nm = 0
    · have HOO := HO.out d0
      have HR : Hid (fc = 0 ∧ fr = ft) := HOO
      have C5 := HFL.out d0 w2 K2.out.1 K2.out.2.1
      subst d0
      clear HO HB HFL HOO
      go_wp2_with fail
      refine C5.mono ?_
      rintro e w3 ⟨rfl, hb3⟩
      have K3 : Hid (Below w.heap.size w w3 ∧ Two w3 (w.heap.size + 1) (.int .i64 0) (.string ⟨#[]⟩)) := ⟨K2.out.1.trans (hb3.mono K2.out.1.size), K2.out.2.2.keep hb3⟩
      clear C5 hb3 K2
      obtain ⟨r0, r1, rf, _⟩ := K3.out.2
      have rf0 := rf 0
      have rf1 := rf 1
      clear rf
      go_wp2_with fail
      have T2 := two_put (v0 := .int .i64 0) (v1 := .string ft) K3.out.2
      exact bodyPost_ret (v := .agg #[.int .i64 0, .string ft]) (by simp [results, Tryz.results15, go_sem, T2.c0, T2.c1]) rfl ⟨by rw [HR.out.1, HR.out.2], (K3.out.1.setCell (by simp) _).setCell (by simp) _⟩
    · have HR : Hid (fc = nm ∧ fr = ⟨#[]⟩) := HB.out d0
      clear HO HB HFL
      obtain ⟨r0, r1, rf, _⟩ := K2.out.2.2
      have rf0 := rf 0
      have rf1 := rf 1
      clear rf
      go_wp2_with fail
      have T2 := two_put (v0 := .int .i64 nm) (v1 := .string ⟨#[]⟩) K2.out.2.2
      exact bodyPost_ret (v := .agg #[.int .i64 nm, .string ⟨#[]⟩]) (by simp [results, Tryz.results15, go_sem, T2.c0, T2.c1]) rfl ⟨by rw [HR.out.1, HR.out.2], (K2.out.1.setCell (by simp) _).setCell (by simp) _⟩
  · have HR : Hid (fc = cc ∧ fr = ⟨#[]⟩) := HCC.out.1 c0
    obtain ⟨r0, r1, rf, _⟩ := K1.out.2.2
    have rf0 := rf 0
    have rf1 := rf 1
    clear rf HI HCC
    generalize ns.length = nn at *
    go_wp2_with fail
    have T2 := two_put (v0 := .int .i64 cc) (v1 := .string ⟨#[]⟩) K1.out.2.2
    exact bodyPost_ret (v := .agg #[.int .i64 cc, .string ⟨#[]⟩]) (by simp [results, Tryz.results15, go_sem, T2.c0, T2.c1]) rfl ⟨by rw [HR.out.1, HR.out.2], (K1.out.1.setCell (by simp) _).setCell (by simp) _⟩
end Go.Proofs.YtmnblligifgcjaaGreatDoor
/-
  What FnNames rests on, plainly.
-/
namespace Go.Proofs.YtmnblligifgcjaaGreatDoor
open Go.ChangeShapes Go.WideShapes Go.ChangeAt Go.RowKit Go.Sort
theorem vary_low6 : lowS ⟨#[118, 97, 114, 121]⟩ = varyN := by decide +kernel
/-- Without a line that varies, names alone tell. -/
theorem bare_fits {l : List Hdr} (h : askC l ⟨#[118, 97, 114, 121]⟩ = 0) (ns : List ByteArray) : vfB (dropL l ⟨#[118, 97, 114, 121]⟩) ns = decide (namesC ns = 0) := by
  have hh : headsC l = 0 := by
    by_cases q : headsC l = 0
    · exact q
    · rw [askC_bad q] at h; exact absurd h q
  have hd : dropL l ⟨#[118, 97, 114, 121]⟩ = dropH varyN l := by rw [dropL, if_pos h, vary_low6]
  rw [hd]
  have h0 : headsC (dropH varyN l) = 0 := drop_heads hh
  have hu : underT varyN (dropH varyN l) = ⟨#[]⟩ := under_none (vals_dropped varyN l)
  unfold vfB
  rw [hu, parse_empty.1, parse_empty.2, decide_eq_true h0]
  simp [varyB]
theorem req_plain : reqC ⟨#[71, 69, 84]⟩ ⟨#[97]⟩ ⟨#[47]⟩ [] = 0 := by decide +kernel
theorem full_plain (ns : List ByteArray) : fullC ⟨#[71, 69, 84]⟩ ⟨#[97]⟩ ⟨#[47]⟩ [] ns = namesC ns := by rw [fullC, if_pos req_plain]
/-- No tag is empty. -/
theorem tags_full {l : List Hdr} {x : ByteArray} (h : x ∈ tagsR l) : x ≠ ⟨#[]⟩ := by
  have hx : x ∈ tagsL l := by
    unfold tagsR at h
    split at h
    · split at h
      · cases h
      · exact h
    · cases h
  simp only [tagsL, List.mem_map] at hx
  obtain ⟨q, hq, rfl⟩ := hx
  simp only [tagP, fullP, List.mem_filter] at hq
  intro e
  have e2 := congrArg (fun b : ByteArray => b.data.toList) e
  simp [hmk] at e2
  rw [e2] at hq
  simp at hq
end Go.Proofs.YtmnblligifgcjaaGreatDoor
/-
  Two text results that are alike.
-/
namespace Go.Proofs.YtmnblligifgcjaaGreatDoor
open Go.ChangeShapes Go.WideShapes Go.ChangeAt Go.RowKit
end Go.Proofs.YtmnblligifgcjaaGreatDoor
/-
  The law of EtagOf.
-/
namespace Go.Proofs.YtmnblligifgcjaaGreatDoor
open Go.ChangeShapes Go.WideShapes Go.ChangeAt Go.RowKit
end Go.Proofs.YtmnblligifgcjaaGreatDoor
/-
  markHeaderS and heldHeaderS: marks laid into head lines, and found again.
-/
namespace Go.Proofs.YtmnblligifgcjaaGreatDoor
open Go.ChangeShapes Go.WideShapes Go.ChangeAt Go.RowKit Go.Sort
def mkHR (k : Nat) (j : Nat) : Hdr := ⟨mkT (k + 2 * j), mkT (k + 2 * j + 1)⟩
def mkHL (k n : Nat) : List Hdr := (List.range n).map (mkHR k)
theorem mkHL_len (k n : Nat) : (mkHL k n).length = n := by simp [mkHL]
theorem mkHL_get {k n i : Nat} (h : i < n) : (mkHL k n)[i]? = some (mkHR k i) := by simp [mkHL, h]
theorem hcell_set_same {w : World} {g o : Nat} {u v : Value} (h : w.cell? ⟨g, o, none⟩ = some u) : (w.setCell ⟨g, o, none⟩ v).cell? ⟨g, o, none⟩ = some v := World.cell?_setCell_same _ _ _ h
theorem hcell_set_off {w : World} {g o o' : Nat} {v : Value} (h : o ≠ o') : (w.setCell ⟨g, o', none⟩ v).cell? ⟨g, o, none⟩ = w.cell? ⟨g, o, none⟩ :=
  World.cell?_setCell_other _ _ _ _ (by intro e; have := congrArg Addr.off e; simp at this; omega)
/-- One field of one line written. -/
theorem hput_name {w : World} {g off i : Nat} {L : List Hdr} {r : Hdr} (h : HeadsAt w g off L) (hr : L[i]? = some r) (n : ByteArray) :
    HeadsAt (w.setCell ⟨g, off + i * 2, none⟩ (.string n)) g off (L.set i { r with name := n }) := by
  intro j q hq
  by_cases e : j = i
  · subst e
    have hl := (List.getElem?_eq_some_iff.1 hr).1
    rw [List.getElem?_set_self hl] at hq
    obtain rfl := Option.some.inj hq
    obtain ⟨a, c⟩ := h j r hr
    exact ⟨hcell_set_same a, by rw [hcell_set_off (by omega)]; exact c⟩
  · rw [List.getElem?_set_ne (fun k => e k.symm)] at hq
    obtain ⟨a, c⟩ := h j q hq
    exact ⟨by rw [hcell_set_off (by omega)]; exact a, by rw [hcell_set_off (by omega)]; exact c⟩
theorem hput_value {w : World} {g off i : Nat} {L : List Hdr} {r : Hdr} (h : HeadsAt w g off L) (hr : L[i]? = some r) (n : ByteArray) :
    HeadsAt (w.setCell ⟨g, off + i * 2 + 1, none⟩ (.string n)) g off (L.set i { r with value := n }) := by
  intro j q hq
  by_cases e : j = i
  · subst e
    have hl := (List.getElem?_eq_some_iff.1 hr).1
    rw [List.getElem?_set_self hl] at hq
    obtain rfl := Option.some.inj hq
    obtain ⟨a, c⟩ := h j r hr
    exact ⟨by rw [hcell_set_off (by omega)]; exact a, hcell_set_same c⟩
  · rw [List.getElem?_set_ne (fun k => e k.symm)] at hq
    obtain ⟨a, c⟩ := h j q hq
    exact ⟨by rw [hcell_set_off (by omega)]; exact a, by rw [hcell_set_off (by omega)]; exact c⟩
/-- The state of the marking loop: j lines are marked. -/
structure HMarked (w : World) (g off : Nat) (k n j : Nat) (L : List Hdr) (W : World) : Prop where
  len : L.length = n
  done : ∀ i, i < j → L[i]? = some (mkHR k i)
  items : HeadsAt W g off L
  thaw : ∀ o, W.frozen? ⟨g, o, none⟩ = false
  apart : Apart g w W
  low : Below g w W
  lt : g < W.heap.size
theorem HMarked.below {w : World} {g off k n j : Nat} {L : List Hdr} {W W' : World} (h : HMarked w g off k n j L W) (hb : Below W.heap.size W W') : HMarked w g off k n j L W' :=
  ⟨h.len, h.done, h.items.keep hb, fun o => by rw [hb.frozen (p := ⟨g, o, none⟩) h.lt, h.thaw], h.apart.trans (.below hb), h.low.trans (hb.mono (Nat.le_of_lt h.lt)), Nat.lt_of_lt_of_le h.lt hb.size⟩
theorem HMarked.set {w : World} {g off k n j o : Nat} {L L' : List Hdr} {W : World} {v : Value} (h : HMarked w g off k n j L W) (hl : L'.length = L.length) (hd : ∀ i, i < j → L'[i]? = L[i]?) (hi : HeadsAt (W.setCell ⟨g, o, none⟩ v) g off L') : HMarked w g off k n j L' (W.setCell ⟨g, o, none⟩ v) :=
  ⟨hl.trans h.len, fun i hi => (hd i hi).trans (h.done i hi), hi, fun o => by rw [World.frozen?_setCell, h.thaw], h.apart.trans (.set _ _ _ _), h.low.setCell (Nat.le_refl _) _, by simpa using h.lt⟩
end Go.Proofs.YtmnblligifgcjaaGreatDoor
/-
  markHeaderS and heldHeaderS.
-/
namespace Go.Proofs.YtmnblligifgcjaaGreatDoor
open Go.ChangeShapes Go.WideShapes Go.ChangeAt Go.RowKit Go.Sort
end Go.Proofs.YtmnblligifgcjaaGreatDoor
/-
  Head lines as a value: compared, marked, held.
-/
namespace Go.Proofs.YtmnblligifgcjaaGreatDoor
open Go.ChangeShapes Go.WideShapes Go.ChangeAt Go.RowKit Go.Sort
def HLV (w : World) (v : Value) (l : List Hdr) : Prop :=
  (v = .slice none 0 0 ∧ l = []) ∨ ∃ g cap, v = .slice (some ⟨g, 0, none⟩) l.length cap ∧ g < w.heap.size ∧ HeadsAt w g 0 l ∧ ∀ o, w.frozen? ⟨g, o, none⟩ = false
theorem OwnH.lv {w : World} {base : Nat} {v : Value} {l : List Hdr} (h : OwnH w base v l) : HLV w v l ∧ ∀ b, v.ownBlock = some b → base ≤ b := by
  have h0 := h
  obtain ⟨_, h1 | ⟨g, c, cur, rfl, hg, hh, _⟩⟩ := h
  · have e : l = [] := List.eq_nil_of_length_eq_zero h1.2
    exact ⟨.inl ⟨h1.1, e⟩, fun b hb => by rw [h1.1] at hb; cases hb⟩
  · refine ⟨.inr ⟨g, c, rfl, (Array.getElem?_eq_some_iff.1 hh).1, ?_, fun o => ?_⟩, fun b hb => ?_⟩
    · obtain ⟨a, c', e, hi⟩ := h0.at
      rcases hi with rfl | ⟨b, off, rfl, hat⟩
      · intro i r hr; simp at hr
      · simp only [Value.slice.injEq, Option.some.injEq] at e
        obtain ⟨e, _⟩ := e
        have e1 := congrArg Addr.block e
        have e2 := congrArg Addr.off e
        simp only at e1 e2
        rw [e1, e2]
        exact hat
    · simp [World.frozen?, hh]
    · simp only [Value.ownBlock, Option.some.injEq] at hb; omega
theorem HLV.below {w w' : World} {v : Value} {l : List Hdr} (h : HLV w v l) (hb : Below w.heap.size w w') : HLV w' v l := by
  rcases h with h | ⟨g, c, e, hg, hi, hf⟩
  · exact .inl h
  · exact .inr ⟨g, c, e, Nat.lt_of_lt_of_le hg hb.size, hi.keep hb, fun o => by rw [hb.frozen (p := ⟨g, o, none⟩) hg, hf]⟩
/-- All that was there, but for the memory of v, is as it was. -/
structure HAV (v : Value) (w w' : World) : Prop where
  size : w.heap.size ≤ w'.heap.size
  cell : ∀ b o, b < w.heap.size → v.ownBlock ≠ some b → w'.cell? ⟨b, o, none⟩ = w.cell? ⟨b, o, none⟩
  frozen : ∀ b o, b < w.heap.size → v.ownBlock ≠ some b → w'.frozen? ⟨b, o, none⟩ = w.frozen? ⟨b, o, none⟩
theorem HAV.below {v : Value} {w w' : World} (h : Below w.heap.size w w') : HAV v w w' :=
  ⟨h.size, fun b o hb _ => h.cell (p := ⟨b, o, none⟩) hb, fun b o hb _ => h.frozen (p := ⟨b, o, none⟩) hb⟩
theorem HLV.av {w w' : World} {v v1 : Value} {l : List Hdr} (h : HLV w v1 l) (k : HAV v w w') (hne : ∀ b, v1.ownBlock = some b → v.ownBlock ≠ some b) : HLV w' v1 l := by
  rcases h with h | ⟨g, c, rfl, hg, hi, hf⟩
  · exact .inl h
  · have hn := hne g rfl
    exact .inr ⟨g, c, rfl, Nat.lt_of_lt_of_le hg k.size, fun i r hr => by rw [k.cell g _ hg hn, k.cell g _ hg hn]; exact hi i r hr, fun o => by rw [k.frozen g o hg hn, hf]⟩
end Go.Proofs.YtmnblligifgcjaaGreatDoor
/-
  Results of head lines: compared, marked, held.
-/
namespace Go.Proofs.YtmnblligifgcjaaGreatDoor
open Go.ChangeShapes Go.WideShapes Go.ChangeAt Go.RowKit Go.Sort
/-- A result in a variable. -/
structure HHRoom (w : World) (b : Nat) (c : Int) (v : Value) : Prop where
  c0 : w.cell? ⟨b, 0, none⟩ = some (.int .i64 c)
  c1 : w.cell? ⟨b, 1, none⟩ = some v
theorem HHRoom.lt {w : World} {b : Nat} {c : Int} {v : Value} (h : HHRoom w b c v) : b < w.heap.size := block_lt_of_cell h.c0
theorem HHRoom.keep {w w' : World} {b : Nat} {c : Int} {v : Value} (h : HHRoom w b c v) (hb : Below w.heap.size w w') : HHRoom w' b c v :=
  ⟨by rw [hb.cell (p := ⟨b, 0, none⟩) h.lt, h.c0], by rw [hb.cell (p := ⟨b, 1, none⟩) h.lt, h.c1]⟩
theorem HHRoom.av {w w' : World} {b : Nat} {c : Int} {v u : Value} (h : HHRoom w b c v) (k : HAV u w w') (hn : u.ownBlock ≠ some b) : HHRoom w' b c v :=
  ⟨by rw [k.cell b 0 h.lt hn, h.c0], by rw [k.cell b 1 h.lt hn, h.c1]⟩
theorem hroom_new (w : World) (c : Int) (a : Option Addr) (n cap : Nat) (t : TypeId) : HHRoom (w.alloc (.cells #[.int .i64 c, .slice a n cap] t)) w.heap.size c (.slice a n cap) := ⟨by simp, by simp⟩
theorem HLV.block_lt {w : World} {v : Value} {l : List Hdr} (h : HLV w v l) : ∀ b, v.ownBlock = some b → b < w.heap.size := by
  rcases h with ⟨rfl, _⟩ | ⟨g, c, rfl, hg, _⟩
  · intro b hb; cases hb
  · intro b hb; simp only [Value.ownBlock, Option.some.injEq] at hb; omega
/-- What a call hands back: head lines in memory of its own. -/
structure HGot (L : List Hdr) (base : Nat) (a : Option Addr) (n cap : Nat) (w : World) : Prop where
  len : n = L.length
  lv : HLV w (.slice a n cap) L
  ge : ∀ b, (Value.slice a n cap).ownBlock = some b → base ≤ b
theorem HRes.got {c : Int} {L : List Hdr} {base : Nat} {e : Ending} {w : World} (h : HRes c L base e w) : ∃ a n cap, e = .returned (.agg #[.int .i64 c, .slice a n cap]) ∧ HGot L base a n cap w := by
  obtain ⟨v, rfl, ho⟩ := h
  obtain ⟨a, c, rfl, _⟩ := ho.at
  exact ⟨a, _, c, rfl, rfl, ho.lv.1, ho.lv.2⟩
structure HMarkedR (w : World) (base : Nat) (a : Option Addr) (n ca : Nat) (w' : World) : Prop where
  lv : HLV w' (.slice a n ca) (mkHL 1 n)
  av : HAV (.slice a n ca) w w'
  low : Below base w w'
/-- Two results in variables, and their lines. -/
structure HKK (w : World) (X1 X2 : Nat) (c : Int) (v1 v2 : Value) (L1 L2 : List Hdr) (W : World) : Prop where
  b : Below w.heap.size w W
  r1 : HHRoom W X1 c v1
  r2 : HHRoom W X2 c v2
  l1 : HLV W v1 L1
  l2 : HLV W v2 L2
theorem HKK.keep {w : World} {X1 X2 : Nat} {c : Int} {v1 v2 : Value} {L1 L2 : List Hdr} {W W' : World} (h : HKK w X1 X2 c v1 v2 L1 L2 W) (hb : Below W.heap.size W W') : HKK w X1 X2 c v1 v2 L1 L2 W' :=
  ⟨h.b.trans (hb.mono h.b.size), h.r1.keep hb, h.r2.keep hb, h.l1.below hb, h.l2.below hb⟩
theorem HKK.av {w : World} {X1 X2 : Nat} {c : Int} {v1 v2 u : Value} {L1 L2 : List Hdr} {W W' : World} (h : HKK w X1 X2 c v1 v2 L1 L2 W) (k : HAV u W W') (hb : Below w.heap.size W W') (h1 : u.ownBlock ≠ some X1) (h2 : u.ownBlock ≠ some X2) (h3 : ∀ b, v1.ownBlock = some b → u.ownBlock ≠ some b) (h4 : ∀ b, v2.ownBlock = some b → u.ownBlock ≠ some b) : HKK w X1 X2 c v1 v2 L1 L2 W' :=
  ⟨h.b.trans hb, h.r1.av k h1, h.r2.av k h2, h.l1.av k h3, h.l2.av k h4⟩
/-- Lines of the law's own, that may be written. -/
structure HMine (W : World) (B : Nat) (l : List Hdr) : Prop where
  at0 : HeadsAt W B 0 l
  free : ∀ o, W.frozen? ⟨B, o, none⟩ = false
  lt : B < W.heap.size
theorem HMine.keep {W W' : World} {B : Nat} {l : List Hdr} (h : HMine W B l) (hb : Below W.heap.size W W') : HMine W' B l :=
  ⟨h.at0.keep hb, fun o => by rw [hb.frozen (p := ⟨B, o, none⟩) h.lt]; exact h.free o, Nat.lt_of_lt_of_le h.lt hb.size⟩
end Go.Proofs.YtmnblligifgcjaaGreatDoor
/-
  Rows of texts as a value: compared, marked, held.
-/
namespace Go.Proofs.YtmnblligifgcjaaGreatDoor
open Go.ChangeShapes Go.WideShapes Go.ChangeAt Go.RowKit Go.Sort
def mkTL (k n : Nat) : List ByteArray := (List.range n).map fun j => mkT (k + j)
theorem mkTL_len (k n : Nat) : (mkTL k n).length = n := by simp [mkTL]
theorem mkTL_get {k n i : Nat} (h : i < n) : (mkTL k n)[i]? = some (mkT (k + i)) := by simp [mkTL, h]
theorem tput {w : World} {g off i : Nat} {L : List ByteArray} {r : ByteArray} (h : TAt w g off L) (hr : L[i]? = some r) (n : ByteArray) : TAt (w.setCell ⟨g, off + i, none⟩ (.string n)) g off (L.set i n) := by
  intro j q hq
  by_cases e : j = i
  · subst e
    have hl := (List.getElem?_eq_some_iff.1 hr).1
    rw [List.getElem?_set_self hl] at hq
    obtain rfl := Option.some.inj hq
    exact hcell_set_same (h j r hr)
  · rw [List.getElem?_set_ne (fun k => e k.symm)] at hq
    rw [hcell_set_off (by omega)]
    exact h j q hq
/-- The state of the marking loop: j texts are marked. -/
structure TMarked (w : World) (g off : Nat) (k n j : Nat) (L : List ByteArray) (W : World) : Prop where
  len : L.length = n
  done : ∀ i, i < j → L[i]? = some (mkT (k + i))
  items : TAt W g off L
  thaw : ∀ o, W.frozen? ⟨g, o, none⟩ = false
  apart : Apart g w W
  low : Below g w W
  lt : g < W.heap.size
theorem TMarked.below {w : World} {g off k n j : Nat} {L : List ByteArray} {W W' : World} (h : TMarked w g off k n j L W) (hb : Below W.heap.size W W') : TMarked w g off k n j L W' :=
  ⟨h.len, h.done, h.items.keep hb, fun o => by rw [hb.frozen (p := ⟨g, o, none⟩) h.lt, h.thaw], h.apart.trans (.below hb), h.low.trans (hb.mono (Nat.le_of_lt h.lt)), Nat.lt_of_lt_of_le h.lt hb.size⟩
theorem TMarked.set {w : World} {g off k n j : Nat} {L : List ByteArray} {W : World} {r : ByteArray} (h : TMarked w g off k n j L W) (hr : L[j]? = some r) : TMarked w g off k n (j + 1) (L.set j (mkT (k + j))) (W.setCell ⟨g, off + j, none⟩ (.string (mkT (k + j)))) := by
  refine ⟨by rw [List.length_set]; exact h.len, fun i hi => ?_, tput h.items hr _, fun o => by rw [World.frozen?_setCell, h.thaw], h.apart.trans (.set _ _ _ _), h.low.setCell (Nat.le_refl _) _, by simpa using h.lt⟩
  by_cases e : i = j
  · subst e; exact List.getElem?_set_self (List.getElem?_eq_some_iff.1 hr).1
  · rw [List.getElem?_set_ne (fun k => e k.symm)]; exact h.done i (by omega)
def TLV (w : World) (v : Value) (l : List ByteArray) : Prop :=
  (v = .slice none 0 0 ∧ l = []) ∨ ∃ g cap, v = .slice (some ⟨g, 0, none⟩) l.length cap ∧ g < w.heap.size ∧ TAt w g 0 l ∧ ∀ o, w.frozen? ⟨g, o, none⟩ = false
theorem OwnS.lv {w : World} {base : Nat} {v : Value} {l : List ByteArray} (h : OwnS w base v l) : TLV w v l ∧ ∀ b, v.ownBlock = some b → base ≤ b := by
  have h0 := h
  obtain ⟨_, h1 | ⟨g, c, cur, rfl, hg, hh, _⟩⟩ := h
  · have e : l = [] := List.eq_nil_of_length_eq_zero h1.2
    exact ⟨.inl ⟨h1.1, e⟩, fun b hb => by rw [h1.1] at hb; cases hb⟩
  · refine ⟨.inr ⟨g, c, rfl, (Array.getElem?_eq_some_iff.1 hh).1, fun i x hx => ?_, fun o => ?_⟩, fun b hb => ?_⟩
    · have hk := (List.getElem?_eq_some_iff.1 hx).1
      have := World.ownsRow.cellAt h0 i (by omega)
      rw [Nat.zero_add, this]
      simp [textsW, hx]
    · simp [World.frozen?, hh]
    · simp only [Value.ownBlock, Option.some.injEq] at hb; omega
theorem TLV.below {w w' : World} {v : Value} {l : List ByteArray} (h : TLV w v l) (hb : Below w.heap.size w w') : TLV w' v l := by
  rcases h with h | ⟨g, c, e, hg, hi, hf⟩
  · exact .inl h
  · exact .inr ⟨g, c, e, Nat.lt_of_lt_of_le hg hb.size, hi.keep hb, fun o => by rw [hb.frozen (p := ⟨g, o, none⟩) hg, hf]⟩
theorem TLV.av {w w' : World} {v v1 : Value} {l : List ByteArray} (h : TLV w v1 l) (k : HAV v w w') (hne : ∀ b, v1.ownBlock = some b → v.ownBlock ≠ some b) : TLV w' v1 l := by
  rcases h with h | ⟨g, c, rfl, hg, hi, hf⟩
  · exact .inl h
  · have hn := hne g rfl
    exact .inr ⟨g, c, rfl, Nat.lt_of_lt_of_le hg k.size, fun i r hr => by rw [k.cell g _ hg hn]; exact hi i r hr, fun o => by rw [k.frozen g o hg hn, hf]⟩
theorem TLV.tin {w : World} {v : Value} {l : List ByteArray} (h : TLV w v l) : ∃ a c, v = .slice a l.length c ∧ TIn w a l := by
  rcases h with ⟨rfl, rfl⟩ | ⟨g, c, rfl, _, hi, _⟩
  · exact ⟨none, 0, rfl, .inl rfl⟩
  · exact ⟨_, c, rfl, .inr ⟨g, 0, rfl, hi⟩⟩
theorem TLV.block_lt {w : World} {v : Value} {l : List ByteArray} (h : TLV w v l) : ∀ b, v.ownBlock = some b → b < w.heap.size := by
  rcases h with ⟨rfl, _⟩ | ⟨g, c, rfl, hg, _⟩
  · intro b hb; cases hb
  · intro b hb; simp only [Value.ownBlock, Option.some.injEq] at hb; omega
/-- What a call hands back: texts in memory of its own. -/
structure TGot (L : List ByteArray) (base : Nat) (a : Option Addr) (n cap : Nat) (w : World) : Prop where
  len : n = L.length
  lv : TLV w (.slice a n cap) L
  ge : ∀ b, (Value.slice a n cap).ownBlock = some b → base ≤ b
def TRes (c : Int) (L : List ByteArray) (base : Nat) (e : Ending) (w : World) : Prop := ∃ v, e = .returned (.agg #[.int .i64 c, v]) ∧ OwnS w base v L
theorem TRes.got {c : Int} {L : List ByteArray} {base : Nat} {e : Ending} {w : World} (h : TRes c L base e w) : ∃ a n cap, e = .returned (.agg #[.int .i64 c, .slice a n cap]) ∧ TGot L base a n cap w := by
  obtain ⟨v, rfl, ho⟩ := h
  obtain ⟨a, c, rfl, _⟩ := ho.lv.1.tin
  exact ⟨a, _, c, rfl, rfl, ho.lv.1, ho.lv.2⟩
structure TMarkedR (w : World) (base : Nat) (a : Option Addr) (n ca : Nat) (w' : World) : Prop where
  lv : TLV w' (.slice a n ca) (mkTL 1 n)
  av : HAV (.slice a n ca) w w'
  low : Below base w w'
/-- Two results in variables, and their lines. -/
structure TKK (w : World) (X1 X2 : Nat) (c : Int) (v1 v2 : Value) (L1 L2 : List ByteArray) (W : World) : Prop where
  b : Below w.heap.size w W
  r1 : HHRoom W X1 c v1
  r2 : HHRoom W X2 c v2
  l1 : TLV W v1 L1
  l2 : TLV W v2 L2
theorem TKK.keep {w : World} {X1 X2 : Nat} {c : Int} {v1 v2 : Value} {L1 L2 : List ByteArray} {W W' : World} (h : TKK w X1 X2 c v1 v2 L1 L2 W) (hb : Below W.heap.size W W') : TKK w X1 X2 c v1 v2 L1 L2 W' :=
  ⟨h.b.trans (hb.mono h.b.size), h.r1.keep hb, h.r2.keep hb, h.l1.below hb, h.l2.below hb⟩
theorem TKK.av {w : World} {X1 X2 : Nat} {c : Int} {v1 v2 u : Value} {L1 L2 : List ByteArray} {W W' : World} (h : TKK w X1 X2 c v1 v2 L1 L2 W) (k : HAV u W W') (hb : Below w.heap.size W W') (h1 : u.ownBlock ≠ some X1) (h2 : u.ownBlock ≠ some X2) (h3 : ∀ b, v1.ownBlock = some b → u.ownBlock ≠ some b) (h4 : ∀ b, v2.ownBlock = some b → u.ownBlock ≠ some b) : TKK w X1 X2 c v1 v2 L1 L2 W' :=
  ⟨h.b.trans hb, h.r1.av k h1, h.r2.av k h2, h.l1.av k h3, h.l2.av k h4⟩
end Go.Proofs.YtmnblligifgcjaaGreatDoor
/-
  TagsOf, on both sides.
-/
namespace Go.Proofs.YtmnblligifgcjaaGreatDoor
open Go.ChangeShapes Go.WideShapes Go.ChangeAt Go.RowKit Go.Sort
theorem ttake {ps : List (List UInt8)} {k : Nat} {p : List UInt8} (h : ps[k]? = some p) : ps.take (k + 1) = ps.take k ++ [p] := by rw [List.take_add_one, h]; rfl
theorem hmk_ne {p : List UInt8} (h : ¬ p = []) : ¬ hmk p = ⟨#[]⟩ := fun e => h (by
  have := congrArg (fun t : ByteArray => t.data.toList) e
  simpa [hmk] using this)
theorem tset {W : World} {base b o : Nat} {v u : Value} {l : List ByteArray} (h : OwnS W base v l) (hb : b < base) : OwnS (W.setCell ⟨b, o, none⟩ u) base v l := by
  obtain ⟨h1, h2⟩ := h
  refine ⟨h1, ?_⟩
  rcases h2 with h2 | ⟨g, c, cur, e, hg, hh, hrest⟩
  · exact .inl h2
  · exact .inr ⟨g, c, cur, e, hg, by rw [Below.heap_setCell _ _ _ g (fun e => by simp only at e; omega)]; exact hh, hrest⟩
set_option maxRecDepth 100000 in
set_option maxHeartbeats 8000000 in
theorem l6Tags_any (w : World) (a : Option Addr) (cap : Nat) (l : List Hdr) (h0 : headsC l = 0) (hi : HdsIn w a l) :
    Calls Tryz.prog 33 #[.slice a l.length cap] w fun e w' => (∃ v, e = .returned v ∧ OwnS w' w.heap.size v (tagsL l)) ∧ Below w.heap.size w w' := by
  obtain ⟨h20, hz⟩ := first_sizes h0
  have H1 := l4Join_any w a cap l ⟨#[115, 117, 114, 114, 111, 103, 97, 116, 101, 45, 107, 101, 121]⟩ h20 hz (by decide) hi
  have hus := under_size (x := tagN) h0
  rw [tagS_low, show (⟨(hjoinL (valsOf tagN l)).toArray⟩ : ByteArray) = underT tagN l from rfl] at H1
  have HTL : Hid (tagsL l = (tagP (underT tagN l)).map hmk) := rfl
  obtain ⟨t, ht⟩ : ∃ t, Hid (underT tagN l = t) := ⟨_, rfl⟩
  rw [ht.out] at H1 hus HTL
  clear hi hz h0
  generalize l.length = n at *
  generalize anyV (valsOf tagN l) = av at *
  clear ht
  generalize tagsL l = TL at *
  obtain ⟨ps, hps⟩ : ∃ ps, Hid (cutG 32 [] t.data.toList = ps) := ⟨_, rfl⟩
  have HPS : Hid (TL = (fullP ps).map hmk) := by rw [← hps.out]; exact HTL.out
  have HPL : Hid (ps.length ≤ 5000) := by
    have h1 := tcut_len 32 t.data.toList []
    have h2 : t.data.toList.length = t.size := by simp
    rw [hps.out] at h1
    show _ ≤ _
    omega
  have HCUT : Hid (∀ W, Calls Tryz.prog 60 #[.string t, .int .u8 32] W fun e w' => CutRes ps W.heap.size e w' ∧ Below W.heap.size W w') := fun W => by
    have := l1Cut_any t 32 W (by omega)
    rw [hps.out] at this
    exact this
  clear hps HTL
  go_enter Tryz.func33, Tryz.ntmps33
  go_wp2_with fail
  refine H1.mono ?_
  rintro e w1 ⟨rfl, hb1⟩
  have HB1 : Hid (Below w.heap.size w w1) := hb1
  clear hb1 H1
  go_wp2_with fail
  refine (HCUT.out _).mono ?_
  rintro e w2 ⟨⟨v, rfl, ho⟩, hb2⟩
  obtain ⟨ca, cc, hv, htin⟩ := ho.lv.1.tin
  rw [List.length_map] at hv
  subst hv
  have HT : Hid (TIn w2 ca (ps.map hmk)) := htin
  have HB2 : Hid (Below w.heap.size w w2) := HB1.out.trans (hb2.mono HB1.out.size)
  clear ho htin hb2 HB1 HCUT
  obtain ⟨N, hN⟩ : ∃ N, Hid (ps.length = N) := ⟨_, rfl⟩
  have hNl : N ≤ 5000 := by rw [← hN.out]; exact HPL.out
  rw [hN.out]
  go_wp2_with fail
  go_loopw [6, 7] (fun v i wr => ∃ k : Nat, k ≤ N ∧ i = .int .i64 (k : Int) ∧ OwnS wr w2.heap.size v ((fullP (ps.take k)).map hmk) ∧ Below w2.heap.size w2 wr) (fun _ i _ => N - (intOf i).toNat)
  case atStart => exact ⟨0, Nat.zero_le _, rfl, ownS_made0 w2 w2.heap.size (Nat.le_refl _), (Below.refl _ _).alloc (Nat.le_refl _) _⟩
  case round =>
    obtain ⟨k, hk, rfl, ho, hb⟩ := hrel
    have HO : Hid (OwnS wr w2.heap.size u6 ((fullP (ps.take k)).map hmk)) := ho
    have hzb := hb.size
    clear ho
    by_cases hlt : k < N
    · obtain ⟨p, hp⟩ : ∃ r, ps[k]? = some r := ⟨ps[k]'(by have := hN.out; omega), List.getElem?_eq_getElem _⟩
      rcases HT.out with h | ⟨b, off, rfl, hat⟩
      · have := congrArg List.length h
        rw [List.length_map, hN.out] at this
        simp at this
        omega
      have p1 := (hat.keep hb) k (hmk p) (by rw [List.getElem?_map, hp]; rfl)
      have g0 : (0 : Int) ≤ k := by omega
      have g1 : (k : Int) < N := by omega
      have HTK := ttake hp
      have hol : ((fullP (ps.take k)).map hmk).length ≤ 5000 := by
        have h1 : (fullP (ps.take k)).length ≤ (ps.take k).length := List.length_filter_le _ _
        rw [List.length_take] at h1
        rw [List.length_map]
        omega
      clear hat hp
      by_cases hpe : p = []
      · subst hpe
        have HN : Hid ((fullP (ps.take (k + 1))).map hmk = (fullP (ps.take k)).map hmk) := by show _ = _; rw [HTK, fullP_snoc_nil]
        clear HTK hol
        have p1' : wr.cell? ⟨b, off + k, none⟩ = some (.string ⟨#[]⟩) := p1
        clear p1
        go_wp2_with fail
        go_roundw
        case rel => exact ⟨k + 1, by omega, by go_num, by rw [HN.out]; exact HO.out, hb⟩
        case measure => simp [intOf]; omega
      · have HN : Hid ((fullP (ps.take (k + 1))).map hmk = (fullP (ps.take k)).map hmk ++ [hmk p]) := by show _ = _; rw [HTK, fullP_snoc _ _ hpe, List.map_append]; rfl
        have ne := etxt_ne (hmk_ne hpe)
        clear HTK hpe
        generalize hmk p = x at *
        generalize (fullP (ps.take k)).map hmk = OM at *
        go_wp2_with (at_builtin; refine wpList_append_str _ rfl (.tmp 27) (.tmp 32) rfl w2.heap.size _ OM x rfl rfl HO.out (by omega) hzb ?_; intro v4 w4 HO4 hb4 hz4)
        go_roundw
        case rel => exact ⟨k + 1, by omega, by go_num, by rw [HN.out]; exact HO4, hb.trans hb4⟩
        case measure => simp [intOf]; omega
    · obtain rfl : k = N := by omega
      have HR : Hid (OwnS wr w.heap.size u6 TL) := by
        rw [HPS.out]
        have e : ps.take k = ps := List.take_of_length_le (by rw [hN.out]; omega)
        have := HO.out
        rw [e] at this
        exact this.lower HB2.out.size
      have HBR : Hid (Below w.heap.size w wr) := HB2.out.trans (hb.mono HB2.out.size)
      clear hb
      go_wp2_with fail
      go_ret
      exact ⟨⟨_, rfl, HR.out⟩, HBR.out⟩
set_option maxHeartbeats 1000000 in
theorem isBlank_any (x : Nat) (w : World) : Calls Tryz.prog 50 #[.int .i32 (x : Int)] w fun e w' => e = .returned (.bool (blank x)) ∧ w' = w := by
  have HE : Hid (blank x = ((x : Int) == 32)) := by
    show _ = _
    unfold blank
    by_cases h : x = 32
    · subst h; rfl
    · rw [beq_eq_false_iff_ne.2 h, beq_eq_false_iff_ne.2 (by omega)]
  go_enter Tryz.func50, Tryz.ntmps50
  go_wp2
  go_ret
  exact ⟨by rw [HE.out]; rfl, rfl⟩
set_option maxRecDepth 100000 in
set_option maxHeartbeats 2000000 in
theorem blankParted_any (s : ByteArray) (w : World) (hs : s.size ≤ 6000) (ha : ∀ (i : Nat) (h : i < s.size), s[i].toNat < 128) :
    Calls Tryz.prog 24 #[.string s] w fun e w' => (∃ v, e = .returned v ∧ OwnS w' w.heap.size v ((tagP s).map hmk)) ∧ Below w.heap.size w w' := by
  have C : Calls Tryz.prog 49 #[.string s, .func (.func 50) #[] #[]] w fun e w' => ∃ A, e = .returned (.slice (some ⟨A, 0, none⟩) (tagP s).length (tagP s).length) ∧ OwnS w' w.heap.size (.slice (some ⟨A, 0, none⟩) (tagP s).length (tagP s).length) ((tagP s).map hmk) ∧ Below w.heap.size w w' := by
    have hp : PredAtRunes Tryz.prog 50 #[] blank w := fun W x _ _ => (isBlank_any x W).mono fun e w' ⟨h1, h2⟩ => ⟨h1, 0, by rw [h2]; rfl⟩
    have h := Any.strings_FieldsFunc_runes Tryz.lays229 50 #[] (enters_of Tryz.func50 (by kernel_rfl) rfl) blank s w (by omega) hp (by kernel_rfl) (by kernel_rfl)
    have e1 : Lib.goFieldsP blank s = (tagP s).map hmk := fields_blank s ha
    rw [e1, List.length_map] at h
    refine h.mono ?_
    rintro e w' ⟨A, h1, _, h3, h4⟩
    refine ⟨A, h1, ?_, h4⟩
    unfold OwnS textsW
    rw [List.length_map]
    exact h3
  clear ha
  generalize tagP s = P at *
  go_enter Tryz.func24, Tryz.ntmps24
  go_wp2_with fail
  refine C.mono ?_
  rintro e w1 ⟨A, rfl, ho, hb⟩
  have HO : Hid (OwnS w1 w.heap.size (.slice (some ⟨A, 0, none⟩) P.length P.length) (P.map hmk)) := ho
  have HB2 : Hid (Below w.heap.size w w1) := hb
  clear C ho hb
  go_wp2_with fail
  go_ret
  exact ⟨⟨_, rfl, HO.out⟩, HB2.out⟩
set_option maxRecDepth 100000 in
set_option maxHeartbeats 4000000 in
theorem specTags_any (w : World) (a : Option Addr) (cap : Nat) (l : List Hdr) (hl : l.length ≤ 1048576) (hi : HdsIn w a l) :
    Calls Tryz.prog 12 #[.slice a l.length cap] w fun e w' => TRes (tagsC l) (tagsR l) w.heap.size e w' ∧ Below w.heap.size w w' := by
  have HA : Hid (∀ W, Below w.heap.size w W → Calls Tryz.prog 29 #[.slice a l.length cap] W fun e w' => e = .returned (.int .i64 (headsC l)) ∧ Below W.heap.size W w') := fun W hb => specHFault_any W a cap l hl (hi.keep hb)
  by_cases h0 : headsC l = 0
  · rw [h0] at HA
    have HC2 : Hid (10 < (tagsL l).length → tagsC l = 2 ∧ tagsR l = []) := tags_many h0
    have HC0 : Hid (¬ 10 < (tagsL l).length → tagsC l = 0 ∧ tagsR l = tagsL l) := tags_ok h0
    have HT : Hid (∀ W, Below w.heap.size w W → Calls Tryz.prog 33 #[.slice a l.length cap] W fun e w' => (∃ v, e = .returned v ∧ OwnS w' W.heap.size v (tagsL l)) ∧ Below W.heap.size W w') := fun W hb => l6Tags_any W a cap l h0 (hi.keep hb)
    clear hi h0
    generalize tagsC l = tc at *
    generalize tagsR l = tr at *
    generalize tagsL l = TL at *
    generalize l.length = n at *
    go_enter Tryz.func12, Tryz.ntmps12
    go_wp2_with fail
    refine (HA.out _ ((Below.refl _ _).alloc (Nat.le_refl _) _)).mono ?_
    rintro e w1 ⟨rfl, hb1⟩
    rw [World.size_alloc] at hb1
    have HB1 : Hid (Below (w.heap.size + 1) (w.alloc (.cells #[.int .i64 0, .slice none 0 0] 33)) w1) := hb1
    have hz1 : w.heap.size + 1 ≤ w1.heap.size := by have := hb1.size; rwa [World.size_alloc] at this
    have HBw : Hid (Below w.heap.size w w1) := ((Below.refl _ _).alloc (Nat.le_refl _) _).trans (hb1.mono (Nat.le_succ _))
    clear hb1 HA
    go_wp2_with fail
    refine (HT.out _ HBw.out).mono ?_
    rintro e w2 ⟨⟨v, rfl, ho⟩, hb2⟩
    obtain ⟨va, vc, hv, _⟩ := ho.lv.1.tin
    obtain ⟨vn, hvn⟩ : ∃ n, Hid (TL.length = n) := ⟨_, rfl⟩
    rw [hvn.out] at hv
    subst hv
    have hb := HB1.out.trans (hb2.mono hz1)
    have p0 : w2.cell? ⟨w.heap.size, 0, none⟩ = some (.int .i64 0) := by rw [hb.cell (p := ⟨w.heap.size, 0, none⟩) (by simp)]; simp
    have p1 : w2.cell? ⟨w.heap.size, 1, none⟩ = some (.slice none 0 0) := by rw [hb.cell (p := ⟨w.heap.size, 1, none⟩) (by simp)]; simp
    have f0 : w2.frozen? ⟨w.heap.size, 0, none⟩ = false := by rw [hb.frozen (p := ⟨w.heap.size, 0, none⟩) (by simp)]; simp
    have f1 : w2.frozen? ⟨w.heap.size, 1, none⟩ = false := by rw [hb.frozen (p := ⟨w.heap.size, 1, none⟩) (by simp)]; simp
    have KB : Hid (Below w.heap.size w w2) := HBw.out.trans (hb2.mono HBw.out.size)
    have KO : Hid (OwnS w2 (w.heap.size + 1) (.slice va vn vc) TL) := ho.lower hz1
    clear hb hb2 ho HB1 HBw HT
    by_cases h10 : (10 : Int) < vn
    · obtain ⟨q0, q1⟩ := two_set (v0 := .int .i64 2) (v1 := .slice none 0 0) p0 p1
      have HC : Hid (tc = 2 ∧ tr = []) := HC2.out (by have := hvn.out; omega)
      go_wp2_with fail
      refine bodyPost_ret (v := .agg #[.int .i64 2, .slice none 0 0]) (by simp [results, Tryz.results12, go_sem, q0, q1]) rfl ⟨⟨_, by rw [HC.out.1], ?_⟩, (KB.out.setCell (Nat.le_refl _) _).setCell (Nat.le_refl _) _⟩
      rw [HC.out.2]
      exact OwnS.nil _ _
    · obtain ⟨q0, q1⟩ := two_set (v0 := .int .i64 0) (v1 := .slice va vn vc) p0 p1
      have HC : Hid (tc = 0 ∧ tr = TL) := HC0.out (by have := hvn.out; omega)
      go_wp2_with fail
      refine bodyPost_ret (v := .agg #[.int .i64 0, .slice va vn vc]) (by simp [results, Tryz.results12, go_sem, q0, q1]) rfl ⟨⟨_, by rw [HC.out.1], ?_⟩, (KB.out.setCell (Nat.le_refl _) _).setCell (Nat.le_refl _) _⟩
      rw [HC.out.2]
      exact (tset (tset KO.out (Nat.lt_succ_self _)) (Nat.lt_succ_self _)).lower (Nat.le_succ _)
  · have HC : Hid (tagsC l = headsC l ∧ tagsR l = []) := tags_bad h0
    clear hi
    generalize tagsC l = tc at *
    generalize tagsR l = tr at *
    generalize l.length = n at *
    generalize headsC l = hcode at *
    go_enter Tryz.func12, Tryz.ntmps12
    go_wp2_with fail
    refine (HA.out _ ((Below.refl _ _).alloc (Nat.le_refl _) _)).mono ?_
    rintro e w2 ⟨rfl, hb1⟩
    rw [World.size_alloc] at hb1
    have KB : Hid (Below w.heap.size w w2) := ((Below.refl _ _).alloc (Nat.le_refl _) _).trans (hb1.mono (Nat.le_succ _))
    have p0 : w2.cell? ⟨w.heap.size, 0, none⟩ = some (.int .i64 0) := by rw [hb1.cell (p := ⟨w.heap.size, 0, none⟩) (by simp)]; simp
    have p1 : w2.cell? ⟨w.heap.size, 1, none⟩ = some (.slice none 0 0) := by rw [hb1.cell (p := ⟨w.heap.size, 1, none⟩) (by simp)]; simp
    have f0 : w2.frozen? ⟨w.heap.size, 0, none⟩ = false := by rw [hb1.frozen (p := ⟨w.heap.size, 0, none⟩) (by simp)]; simp
    have f1 : w2.frozen? ⟨w.heap.size, 1, none⟩ = false := by rw [hb1.frozen (p := ⟨w.heap.size, 1, none⟩) (by simp)]; simp
    clear hb1 HA
    obtain ⟨q0, q1⟩ := two_set (v0 := .int .i64 hcode) (v1 := .slice none 0 0) p0 p1
    go_wp2_with fail
    refine bodyPost_ret (v := .agg #[.int .i64 hcode, .slice none 0 0]) (by simp [results, Tryz.results12, go_sem, q0, q1]) rfl ⟨⟨_, by rw [HC.out.1], ?_⟩, (KB.out.setCell (Nat.le_refl _) _).setCell (Nat.le_refl _) _⟩
    rw [HC.out.2]
    exact OwnS.nil _ _
set_option maxRecDepth 100000 in
set_option maxHeartbeats 4000000 in
theorem implTags_any (w : World) (a : Option Addr) (cap : Nat) (l : List Hdr) (hl : l.length ≤ 1048576) (hcap : l.length ≤ cap) (hset : SetIs w) (hi : HdsIn w a l) :
    Calls Tryz.prog 8 #[.slice a l.length cap] w fun e w' => TRes (tagsC l) (tagsR l) w.heap.size e w' ∧ Below w.heap.size w w' := by
  have HA : Hid (∀ W, Below w.heap.size w W → Calls Tryz.prog 21 #[.slice a l.length cap] W fun e w' => e = .returned (.int .i64 (headsC l)) ∧ Below W.heap.size W w') := fun W hb => implHFault_any W a cap l hl (hset.below hb) (hi.keep hb)
  by_cases h0 : headsC l = 0
  · rw [h0] at HA
    have HC2 : Hid (10 < (tagsL l).length → tagsC l = 2 ∧ tagsR l = []) := tags_many h0
    have HC0 : Hid (¬ 10 < (tagsL l).length → tagsC l = 0 ∧ tagsR l = tagsL l) := tags_ok h0
    have h20 := (first_sizes h0).1
    have HJ : Hid (∀ W, Below w.heap.size w W → Calls Tryz.prog 25 #[.slice a l.length cap, .string ⟨#[83, 117, 114, 114, 111, 103, 97, 116, 101, 45, 75, 101, 121]⟩] W fun e w' => e = .returned (.agg #[.int .i64 (joinC l ⟨#[83, 117, 114, 114, 111, 103, 97, 116, 101, 45, 75, 101, 121]⟩), .string (underT tagN l)]) ∧ Below W.heap.size W w') := fun W hb => by
      have := implJoin_any W a cap l ⟨#[83, 117, 114, 114, 111, 103, 97, 116, 101, 45, 75, 101, 121]⟩ (by omega) hcap (hset.below hb) (hi.keep hb)
      rw [under_join h0 tagI_word, tagI_low] at this
      exact this
    have HT : Hid (∀ W, Calls Tryz.prog 24 #[.string (underT tagN l)] W fun e w' => (∃ v, e = .returned v ∧ OwnS w' W.heap.size v (tagsL l)) ∧ Below W.heap.size W w') := fun W => blankParted_any (underT tagN l) W (by have := under_size (x := tagN) h0; omega) (under_ascii h0)
    generalize joinC l ⟨#[83, 117, 114, 114, 111, 103, 97, 116, 101, 45, 75, 101, 121]⟩ = jc at *
    generalize underT tagN l = ut at *
    have hf := tfieldU jc ut
    clear hi h0 hcap hset h20
    generalize tagsC l = tc at *
    generalize tagsR l = tr at *
    generalize tagsL l = TL at *
    generalize l.length = n at *
    go_enter Tryz.func8, Tryz.ntmps8
    go_wp2_with fail
    refine (HA.out _ ((Below.refl _ _).alloc (Nat.le_refl _) _)).mono ?_
    rintro e w1 ⟨rfl, hb1⟩
    rw [World.size_alloc] at hb1
    have HB1 : Hid (Below (w.heap.size + 1) (w.alloc (.cells #[.int .i64 0, .slice none 0 0] 33)) w1) := hb1
    have hz1 : w.heap.size + 1 ≤ w1.heap.size := by have := hb1.size; rwa [World.size_alloc] at this
    have HBw : Hid (Below w.heap.size w w1) := ((Below.refl _ _).alloc (Nat.le_refl _) _).trans (hb1.mono (Nat.le_succ _))
    clear hb1 HA
    go_wp2_with fail
    refine (HJ.out _ HBw.out).mono ?_
    rintro e w15 ⟨rfl, hb15⟩
    have HB15 : Hid (Below (w.heap.size + 1) (w.alloc (.cells #[.int .i64 0, .slice none 0 0] 33)) w15) := HB1.out.trans (hb15.mono hz1)
    have hz15 : w.heap.size + 1 ≤ w15.heap.size := Nat.le_trans hz1 hb15.size
    have HBx : Hid (Below w.heap.size w w15) := HBw.out.trans (hb15.mono HBw.out.size)
    clear hb15 HJ HB1 HBw hz1
    have hz1 := hz15
    have HB1 := HB15
    have HBw := HBx
    clear hz15 HB15 HBx
    go_wp2_with fail
    refine (HT.out _).mono ?_
    rintro e w2 ⟨⟨v, rfl, ho⟩, hb2⟩
    obtain ⟨va, vc, hv, _⟩ := ho.lv.1.tin
    obtain ⟨vn, hvn⟩ : ∃ n, Hid (TL.length = n) := ⟨_, rfl⟩
    rw [hvn.out] at hv
    subst hv
    have hb := HB1.out.trans (hb2.mono hz1)
    have p0 : w2.cell? ⟨w.heap.size, 0, none⟩ = some (.int .i64 0) := by rw [hb.cell (p := ⟨w.heap.size, 0, none⟩) (by simp)]; simp
    have p1 : w2.cell? ⟨w.heap.size, 1, none⟩ = some (.slice none 0 0) := by rw [hb.cell (p := ⟨w.heap.size, 1, none⟩) (by simp)]; simp
    have f0 : w2.frozen? ⟨w.heap.size, 0, none⟩ = false := by rw [hb.frozen (p := ⟨w.heap.size, 0, none⟩) (by simp)]; simp
    have f1 : w2.frozen? ⟨w.heap.size, 1, none⟩ = false := by rw [hb.frozen (p := ⟨w.heap.size, 1, none⟩) (by simp)]; simp
    have KB : Hid (Below w.heap.size w w2) := HBw.out.trans (hb2.mono HBw.out.size)
    have KO : Hid (OwnS w2 (w.heap.size + 1) (.slice va vn vc) TL) := ho.lower hz1
    clear hb hb2 ho HB1 HBw HT
    by_cases h10 : (10 : Int) < vn
    · obtain ⟨q0, q1⟩ := two_set (v0 := .int .i64 2) (v1 := .slice none 0 0) p0 p1
      have HC : Hid (tc = 2 ∧ tr = []) := HC2.out (by have := hvn.out; omega)
      go_wp2_with fail
      refine bodyPost_ret (v := .agg #[.int .i64 2, .slice none 0 0]) (by simp [results, Tryz.results8, go_sem, q0, q1]) rfl ⟨⟨_, by rw [HC.out.1], ?_⟩, (KB.out.setCell (Nat.le_refl _) _).setCell (Nat.le_refl _) _⟩
      rw [HC.out.2]
      exact OwnS.nil _ _
    · obtain ⟨q0, q1⟩ := two_set (v0 := .int .i64 0) (v1 := .slice va vn vc) p0 p1
      have HC : Hid (tc = 0 ∧ tr = TL) := HC0.out (by have := hvn.out; omega)
      go_wp2_with fail
      refine bodyPost_ret (v := .agg #[.int .i64 0, .slice va vn vc]) (by simp [results, Tryz.results8, go_sem, q0, q1]) rfl ⟨⟨_, by rw [HC.out.1], ?_⟩, (KB.out.setCell (Nat.le_refl _) _).setCell (Nat.le_refl _) _⟩
      rw [HC.out.2]
      exact (tset (tset KO.out (Nat.lt_succ_self _)) (Nat.lt_succ_self _)).lower (Nat.le_succ _)
  · have HC : Hid (tagsC l = headsC l ∧ tagsR l = []) := tags_bad h0
    clear hi hcap hset
    generalize tagsC l = tc at *
    generalize tagsR l = tr at *
    generalize l.length = n at *
    generalize headsC l = hcode at *
    go_enter Tryz.func8, Tryz.ntmps8
    go_wp2_with fail
    refine (HA.out _ ((Below.refl _ _).alloc (Nat.le_refl _) _)).mono ?_
    rintro e w2 ⟨rfl, hb1⟩
    rw [World.size_alloc] at hb1
    have KB : Hid (Below w.heap.size w w2) := ((Below.refl _ _).alloc (Nat.le_refl _) _).trans (hb1.mono (Nat.le_succ _))
    have p0 : w2.cell? ⟨w.heap.size, 0, none⟩ = some (.int .i64 0) := by rw [hb1.cell (p := ⟨w.heap.size, 0, none⟩) (by simp)]; simp
    have p1 : w2.cell? ⟨w.heap.size, 1, none⟩ = some (.slice none 0 0) := by rw [hb1.cell (p := ⟨w.heap.size, 1, none⟩) (by simp)]; simp
    have f0 : w2.frozen? ⟨w.heap.size, 0, none⟩ = false := by rw [hb1.frozen (p := ⟨w.heap.size, 0, none⟩) (by simp)]; simp
    have f1 : w2.frozen? ⟨w.heap.size, 1, none⟩ = false := by rw [hb1.frozen (p := ⟨w.heap.size, 1, none⟩) (by simp)]; simp
    clear hb1 HA
    obtain ⟨q0, q1⟩ := two_set (v0 := .int .i64 hcode) (v1 := .slice none 0 0) p0 p1
    go_wp2_with fail
    refine bodyPost_ret (v := .agg #[.int .i64 hcode, .slice none 0 0]) (by simp [results, Tryz.results8, go_sem, q0, q1]) rfl ⟨⟨_, by rw [HC.out.1], ?_⟩, (KB.out.setCell (Nat.le_refl _) _).setCell (Nat.le_refl _) _⟩
    rw [HC.out.2]
    exact OwnS.nil _ _
end Go.Proofs.YtmnblligifgcjaaGreatDoor
/-
  PolicyFault, on both sides; policies that lie in memory.
-/
namespace Go.Proofs.YtmnblligifgcjaaGreatDoor
open Go.ChangeShapes Go.WideShapes Go.ChangeAt Go.RowKit
/-- A policy in memory. -/
structure PolAt (w : World) (b : Nat) (b0 b1 b2 : Bool) (l s e g : Int) : Prop where
  c0 : w.cell? ⟨b, 0, none⟩ = some (.bool b0)
  c1 : w.cell? ⟨b, 1, none⟩ = some (.bool b1)
  c2 : w.cell? ⟨b, 2, none⟩ = some (.bool b2)
  c3 : w.cell? ⟨b, 3, none⟩ = some (.int .i64 l)
  c4 : w.cell? ⟨b, 4, none⟩ = some (.int .i64 s)
  c5 : w.cell? ⟨b, 5, none⟩ = some (.int .i64 e)
  c6 : w.cell? ⟨b, 6, none⟩ = some (.int .i64 g)
  fr : ∀ o, w.frozen? ⟨b, o, none⟩ = false
  lt : b < w.heap.size
theorem PolAt.keep {w w' : World} {b : Nat} {b0 b1 b2 : Bool} {l s e g : Int} (k : PolAt w b b0 b1 b2 l s e g) (hb : Below w.heap.size w w') : PolAt w' b b0 b1 b2 l s e g :=
  ⟨by rw [hb.cell (p := ⟨b, 0, none⟩) k.lt]; exact k.c0, by rw [hb.cell (p := ⟨b, 1, none⟩) k.lt]; exact k.c1, by rw [hb.cell (p := ⟨b, 2, none⟩) k.lt]; exact k.c2, by rw [hb.cell (p := ⟨b, 3, none⟩) k.lt]; exact k.c3, by rw [hb.cell (p := ⟨b, 4, none⟩) k.lt]; exact k.c4, by rw [hb.cell (p := ⟨b, 5, none⟩) k.lt]; exact k.c5, by rw [hb.cell (p := ⟨b, 6, none⟩) k.lt]; exact k.c6,
    fun o => by rw [hb.frozen (p := ⟨b, o, none⟩) k.lt]; exact k.fr o, Nat.lt_of_lt_of_le k.lt hb.size⟩
theorem PolAt.new (w : World) (b0 b1 b2 : Bool) (l s e g : Int) (t : TypeId) : PolAt (w.alloc (.cells #[.bool b0, .bool b1, .bool b2, .int .i64 l, .int .i64 s, .int .i64 e, .int .i64 g] t)) w.heap.size b0 b1 b2 l s e g :=
  ⟨by simp, by simp, by simp, by simp, by simp, by simp, by simp, fun o => by simp, by simp⟩
def timeB (x : Int) : Bool := decide (0 ≤ x) && decide (x ≤ 1000000000000000)
theorem timeB_yes {x : Int} (h0 : 0 ≤ x) (h1 : x ≤ 1000000000000000) : timeB x = true := by simp [timeB, h0, h1]
theorem timeB_of {x : Int} (h : timeB x = true) : 0 ≤ x ∧ x ≤ 1000000000000000 := by simpa [timeB] using h
def polB (l s e g : Int) : Bool := (timeB l || decide (l = -1)) && timeB s && timeB e && timeB g
def polC (l s e g : Int) : Int := if polB l s e g = true then 0 else 3
theorem polC_ok {l s e g : Int} (h : polB l s e g = true) : polC l s e g = 0 := by rw [polC, if_pos h]
theorem polC_bad {l s e g : Int} (h : polB l s e g = false) : polC l s e g = 3 := by rw [polC, if_neg (by rw [h]; decide)]
end Go.Proofs.YtmnblligifgcjaaGreatDoor
/-
  StoreLife, on both sides.
-/
namespace Go.Proofs.YtmnblligifgcjaaGreatDoor
open Go.ChangeShapes Go.WideShapes Go.ChangeAt Go.RowKit
/-- Two cells that may be written. -/
structure IR (w : World) (b : Nat) (v0 v1 : Value) : Prop where
  c0 : w.cell? ⟨b, 0, none⟩ = some v0
  c1 : w.cell? ⟨b, 1, none⟩ = some v1
  fr : ∀ o, w.frozen? ⟨b, o, none⟩ = false
  lt : b < w.heap.size
theorem IR.keep {w w' : World} {b : Nat} {v0 v1 : Value} (k : IR w b v0 v1) (hb : Below w.heap.size w w') : IR w' b v0 v1 :=
  ⟨by rw [hb.cell (p := ⟨b, 0, none⟩) k.lt]; exact k.c0, by rw [hb.cell (p := ⟨b, 1, none⟩) k.lt]; exact k.c1, fun o => by rw [hb.frozen (p := ⟨b, o, none⟩) k.lt]; exact k.fr o, Nat.lt_of_lt_of_le k.lt hb.size⟩
theorem IR.new (w : World) (v0 v1 : Value) (t : TypeId) : IR (w.alloc (.cells #[v0, v1] t)) w.heap.size v0 v1 :=
  ⟨by rw [World.cell?_alloc_mark]; rfl, by rw [World.cell?_alloc_mark]; rfl, fun o => by have e := heap_alloc_new w (.cells #[v0, v1] t); unfold World.frozen?; rw [e]; simp, by simp⟩
def statB (st : Int) : Bool := decide (st = 200) || decide (st = 404) || decide (st = 410)
/-- Whether an answer may be kept. -/
def keepB (b0 : Bool) (l st : Int) : Bool := !b0 && statB st && !(decide (st = 200) && decide (l = -1))
def lifeX (l ng : Int) : Int := if l = -1 then ng else l
def rangeB (st ng : Int) : Bool := decide (200 ≤ st) && decide (st ≤ 599) && timeB ng
def lifeC (b0 : Bool) (l s e g st ng : Int) : Int := if polB l s e g = true then (if rangeB st ng = true then (if keepB b0 l st = true then 0 else 4) else 3) else 3
def lifeV (b0 : Bool) (l s e g st ng : Int) : Int := if lifeC b0 l s e g st ng = 0 then lifeX l ng else 0
theorem life_pol {b0 : Bool} {l s e g st ng : Int} (h : polB l s e g = false) : lifeC b0 l s e g st ng = 3 ∧ lifeV b0 l s e g st ng = 0 := by
  have c : lifeC b0 l s e g st ng = 3 := by rw [lifeC, if_neg (by rw [h]; decide)]
  exact ⟨c, by rw [lifeV, c, if_neg (by decide)]⟩
theorem life_range {b0 : Bool} {l s e g st ng : Int} (h : polB l s e g = true) (h2 : rangeB st ng = false) : lifeC b0 l s e g st ng = 3 ∧ lifeV b0 l s e g st ng = 0 := by
  have c : lifeC b0 l s e g st ng = 3 := by rw [lifeC, if_pos h, if_neg (by rw [h2]; decide)]
  exact ⟨c, by rw [lifeV, c, if_neg (by decide)]⟩
theorem life_none {b0 : Bool} {l s e g st ng : Int} (h : polB l s e g = true) (h2 : rangeB st ng = true) (h3 : keepB b0 l st = false) : lifeC b0 l s e g st ng = 4 ∧ lifeV b0 l s e g st ng = 0 := by
  have c : lifeC b0 l s e g st ng = 4 := by rw [lifeC, if_pos h, if_pos h2, if_neg (by rw [h3]; decide)]
  exact ⟨c, by rw [lifeV, c, if_neg (by decide)]⟩
theorem life_ok {b0 : Bool} {l s e g st ng : Int} (h : polB l s e g = true) (h2 : rangeB st ng = true) (h3 : keepB b0 l st = true) : lifeC b0 l s e g st ng = 0 ∧ lifeV b0 l s e g st ng = lifeX l ng := by
  have c : lifeC b0 l s e g st ng = 0 := by rw [lifeC, if_pos h, if_pos h2, if_pos h3]
  exact ⟨c, by rw [lifeV, if_pos c]⟩
theorem lifeX_told {l ng : Int} (h : ¬ l = -1) : lifeX l ng = l := by rw [lifeX, if_neg h]
theorem lifeX_not {ng : Int} : lifeX (-1) ng = ng := by rw [lifeX, if_pos rfl]
def lifeT (b0 : Bool) (l st ng : Int) : Value := .tuple #[.int .i64 (if keepB b0 l st = true then lifeX l ng else 0), .bool (keepB b0 l st)]
end Go.Proofs.YtmnblligifgcjaaGreatDoor
/-
  The law of names, out of contracts.
-/
namespace Go.Proofs.YtmnblligifgcjaaGreatDoor
open Go.ChangeShapes Go.WideShapes Go.ChangeAt Go.RowKit Go.Sort
namespace nms
theorem tfC (c : Int) (t : ByteArray) (w : World) : (Instr.field 29 (.agg #[.int .i64 c, .string t]) 0).run Tryz.prog w = .ok (.int .i64 c) w := by kernel_rfl
theorem tfT (c : Int) (t : ByteArray) (w : World) : (Instr.field 29 (.agg #[.int .i64 c, .string t]) 1).run Tryz.prog w = .ok (.string t) w := by kernel_rfl
theorem nfC (c : Int) (a : Option Addr) (n k : Nat) (w : World) : (Instr.field 33 (.agg #[.int .i64 c, .slice a n k]) 0).run Tryz.prog w = .ok (.int .i64 c) w := by kernel_rfl
theorem nfN (c : Int) (a : Option Addr) (n k : Nat) (w : World) : (Instr.field 33 (.agg #[.int .i64 c, .slice a n k]) 1).run Tryz.prog w = .ok (.slice a n k) w := by kernel_rfl
theorem ownh_in {w : World} {base : Nat} {pa : Option Addr} {n pc : Nat} {L : List Hdr} (h : OwnH w base (.slice pa n pc) L) : n = L.length ∧ L.length ≤ pc ∧ HdsIn w pa L := by
  obtain ⟨a', c', e, hin⟩ := h.at
  simp only [Value.slice.injEq] at e
  refine ⟨e.2.1, ?_, by rw [e.1]; exact hin⟩
  obtain ⟨_, h1 | ⟨g, c2, cur, e2, _, _, hc2, _⟩⟩ := h
  · have : L = [] := List.eq_nil_of_length_eq_zero h1.2
    subst this; simp
  · simp only [Value.slice.injEq] at e2
    rw [e2.2.2]; exact hc2
theorem owns_in {w : World} {base : Nat} {pa : Option Addr} {n pc : Nat} {T : List ByteArray} (h : OwnS w base (.slice pa n pc) T) : n = T.length ∧ TIn w pa T := by
  obtain ⟨a', c', e, hin⟩ := h.tin
  simp only [Value.slice.injEq] at e
  exact ⟨e.2.1, by rw [e.1]; exact hin⟩
set_option maxRecDepth 100000 in
set_option maxHeartbeats 16000000 in
theorem fnNames_walk (w : World) (a : Option Addr) (len cap : Nat) (hc : CodeRow w w.heap.size a len) (hset : SetIs w) :
    Calls Tryz.prog 3 #[.slice a len cap] w fun e w' => e = .returned (.bool true) ∧ Below w.heap.size w w' := by
  have HC : Hid (CodeRow w w.heap.size a len) := hc
  have HSET : Hid (SetIs w) := hset
  clear hc hset
  by_cases hbig : (1048576 : Int) < len
  · go_enter Tryz.func3, Tryz.ntmps3
    go_wp2
    go_ret
    exact ⟨rfl, Below.refl _ _⟩
  have hl2 : len ≤ 1048576 := by omega
  go_enter Tryz.func3, Tryz.ntmps3
  go_wp2_with (go_at_call 4; go_in)
  refine (drawVary_any w a len cap HC.out hl2).mono ?_
  rintro r w1 ⟨⟨pa, pc, L, na, nc, T, rfl, ownL, hlen, ownT, hTl⟩, hb1⟩
  have F1 : Hid (Below w.heap.size w w1 ∧ CodeRow w1 w1.heap.size a len) := ⟨hb1, (HC.out.below hb1).mono hb1.size⟩
  have HL : Hid (∀ W, Below w1.heap.size w1 W → HdsIn W pa L ∧ TIn W na T ∧ SetIs W) := fun W hb => ⟨(ownh_in (ownL.below hb)).2.2, (owns_in (ownT.below hb)).2, HSET.out.below (hb1.trans (hb.mono hb1.size))⟩
  have hcp : L.length ≤ pc := (ownh_in ownL).2.1
  clear ownL ownT hb1 HC
  have HIE : Hid (∀ W, Below w1.heap.size w1 W → Calls Tryz.prog 6 #[.slice pa L.length pc] W fun e w' => e = .returned (.agg #[.int .i64 (etagC L), .string (etagT L)]) ∧ Below W.heap.size W w') := fun W hb => implEtag_any W pa pc L (by omega) (HL.out W hb).2.2 (HL.out W hb).1
  have HSE : Hid (∀ W, Below w1.heap.size w1 W → Calls Tryz.prog 11 #[.slice pa L.length pc] W fun e w' => e = .returned (.agg #[.int .i64 (etagC L), .string (etagT L)]) ∧ Below W.heap.size W w') := fun W hb => specEtag_any W pa pc L (by omega) (HL.out W hb).1
  have HIV : Hid (∀ W, Below w1.heap.size w1 W → Calls Tryz.prog 9 #[.slice pa L.length pc, .slice na T.length nc] W fun e w' => e = .returned (.bool (vfB L T)) ∧ Below W.heap.size W w') := fun W hb => implVary_any W pa pc L na nc T (by omega) hcp (by omega) (HL.out W hb).2.2 (HL.out W hb).1 (HL.out W hb).2.1
  have HSV : Hid (∀ W, Below w1.heap.size w1 W → Calls Tryz.prog 10 #[.slice pa L.length pc, .slice na T.length nc] W fun e w' => e = .returned (.bool (vfB L T)) ∧ Below W.heap.size W w') := fun W hb => specVary_any W pa pc L na nc T (by omega) (by omega) (HL.out W hb).1 (HL.out W hb).2.1
  have HDR : Hid (∀ W, Below w1.heap.size w1 W → Calls Tryz.prog 14 #[.slice pa L.length pc, .string ⟨#[118, 97, 114, 121]⟩] W fun e w' => HRes (askC L ⟨#[118, 97, 114, 121]⟩) (dropL L ⟨#[118, 97, 114, 121]⟩) W.heap.size e w' ∧ Below W.heap.size W w') := fun W hb => implDrop_any W pa pc L ⟨#[118, 97, 114, 121]⟩ (by omega) (HL.out W hb).2.2 (HL.out W hb).1
  have HBV : Hid (∀ W da dk, Below w1.heap.size w1 W → askC L ⟨#[118, 97, 114, 121]⟩ = 0 → HdsIn W da (dropL L ⟨#[118, 97, 114, 121]⟩) → (dropL L ⟨#[118, 97, 114, 121]⟩).length ≤ dk → Calls Tryz.prog 9 #[.slice da (dropL L ⟨#[118, 97, 114, 121]⟩).length dk, .slice na T.length nc] W fun e w' => e = .returned (.bool (decide (namesC T = 0))) ∧ Below W.heap.size W w') := fun W da dk hb h0 hin hk => by
    have := implVary_any W da dk (dropL L ⟨#[118, 97, 114, 121]⟩) na nc T (by have := dropL_le L ⟨#[118, 97, 114, 121]⟩; omega) hk (by omega) (HL.out W hb).2.2 hin (HL.out W hb).2.1
    rwa [bare_fits h0] at this
  have HFK : Hid (∀ W, Below w1.heap.size w1 W → Calls Tryz.prog 15 #[.agg #[.string ⟨#[71, 69, 84]⟩, .string ⟨#[97]⟩, .string ⟨#[47]⟩, .slice none 0 0], .slice na T.length nc] W fun e w' => (∃ t : ByteArray, e = .returned (.agg #[.int .i64 (namesC T), .string t])) ∧ Below W.heap.size W w') := fun W hb => by
    have := specFull_any W ⟨#[71, 69, 84]⟩ ⟨#[97]⟩ ⟨#[47]⟩ none 0 [] na nc T (by simp) (by omega) (.inl rfl) (HL.out W hb).2.1
    rw [full_plain] at this
    exact this.mono fun _ _ ⟨h1, h2⟩ => ⟨⟨_, h1⟩, h2⟩
  have HFR : Hid (∀ W, Below w1.heap.size w1 W → Calls Tryz.prog 15 #[.agg #[.string ⟨#[71, 69, 84]⟩, .string ⟨#[97]⟩, .string ⟨#[47]⟩, .slice none 0 0], .slice na T.length nc] W fun e w' => e = .returned (.agg #[.int .i64 (namesC T), .string (fullR ⟨#[71, 69, 84]⟩ ⟨#[97]⟩ ⟨#[47]⟩ [] T)]) ∧ Below W.heap.size W w') := fun W hb => by
    have := specFull_any W ⟨#[71, 69, 84]⟩ ⟨#[97]⟩ ⟨#[47]⟩ none 0 [] na nc T (by simp) (by omega) (.inl rfl) (HL.out W hb).2.1
    rwa [full_plain] at this
  clear HFK
  generalize fullR ⟨#[71, 69, 84]⟩ ⟨#[97]⟩ ⟨#[47]⟩ [] T = fkt at *
  have HDL : Hid ((dropL L ⟨#[118, 97, 114, 121]⟩).length ≤ 22) := by have := dropL_le L ⟨#[118, 97, 114, 121]⟩; show _ ≤ _; omega
  generalize L.length = ln at *
  generalize T.length = tn at *
  obtain ⟨ec, hec⟩ : ∃ x, Hid (etagC L = x) := ⟨_, rfl⟩
  obtain ⟨et, het⟩ : ∃ x, Hid (etagT L = x) := ⟨_, rfl⟩
  rw [hec.out, het.out] at HIE HSE
  clear hec het
  generalize vfB L T = vf at *
  generalize namesC T = nmc at *
  generalize askC L ⟨#[118, 97, 114, 121]⟩ = dc at *
  generalize dropL L ⟨#[118, 97, 114, 121]⟩ = DL at *
  clear hlen hcp hTl
  go_wp2_with fail
  refine (HIE.out _ (Below.refl _ _)).mono ?_
  rintro r w2 ⟨rfl, hb2⟩
  obtain ⟨v2, hv2⟩ : ∃ X, Hid (X = w2.alloc (.cells #[.int .i64 ec, .string et] 29)) := ⟨_, rfl⟩
  have F2 : Hid (Below w.heap.size w v2 ∧ Below w1.heap.size w1 v2 ∧ IR v2 w2.heap.size (.int .i64 ec) (.string et) ∧ CodeRow v2 v2.heap.size a len) := by
    have al : Below w2.heap.size w2 (w2.alloc (.cells #[.int .i64 ec, .string et] 29)) := (Below.refl _ _).alloc (Nat.le_refl _) _
    have q := hb2.trans (al.mono hb2.size)
    rw [hv2.out]
    exact ⟨F1.out.1.trans (q.mono F1.out.1.size), q, IR.new _ _ _ _, (F1.out.2.below q).mono q.size⟩
  clear hb2 F1 HIE
  go_upto_region 5 with fail
  rw [← hv2.out]
  clear hv2
  generalize w2.heap.size = E at *
  clear w2
  go_wp2_with fail
  refine (drawTags_any v2 a len cap F2.out.2.2.2 hl2).mono ?_
  rintro r w3 ⟨⟨v, M, rfl, ownM, hMl⟩, hb3⟩
  obtain ⟨ma, mc, rfl, hzz⟩ := ownM.at
  clear hzz
  have F3 : Hid (Below w.heap.size w w3 ∧ Below w1.heap.size w1 w3 ∧ IR w3 E (.int .i64 ec) (.string et)) := by
    obtain ⟨f1, f2, f3, _⟩ := F2.out
    exact ⟨f1.trans (hb3.mono f1.size), f2.trans (hb3.mono f2.size), f3.keep hb3⟩
  have HM : Hid (∀ W, Below w3.heap.size w3 W → HdsIn W ma M) := fun W hb => (ownh_in (ownM.below hb)).2.2
  have hmp : M.length ≤ mc := (ownh_in ownM).2.1
  clear hb3 F2 ownM
  have HIT : Hid (∀ W, Below w3.heap.size w3 W → Calls Tryz.prog 8 #[.slice ma M.length mc] W fun e w' => TRes (tagsC M) (tagsR M) W.heap.size e w' ∧ Below W.heap.size W w') := fun W hb => implTags_any W ma mc M (by omega) hmp (HL.out W (F3.out.2.1.trans (hb.mono F3.out.2.1.size))).2.2 (HM.out W hb)
  have HST : Hid (∀ W, Below w3.heap.size w3 W → Calls Tryz.prog 12 #[.slice ma M.length mc] W fun e w' => TRes (tagsC M) (tagsR M) W.heap.size e w' ∧ Below W.heap.size W w') := fun W hb => specTags_any W ma mc M (by omega) (HM.out W hb)
  have HTF : Hid (∀ x ∈ tagsR M, x ≠ ⟨#[]⟩) := fun x hx => tags_full hx
  have HTL : Hid ((tagsR M).length ≤ 10) := tagsR_len M
  generalize M.length = mn at *
  generalize tagsC M = tc at *
  generalize tagsR M = TL at *
  clear HM hmp hMl
  go_wp2_with fail
  refine (HIT.out _ (Below.refl _ _)).mono ?_
  rintro r w4 ⟨⟨v, rfl, ownN⟩, hb4⟩
  obtain ⟨ta, tk, rfl, hzz⟩ := ownN.tin
  clear hzz
  have HNl : Hid (TL.length ≤ 10) := HTL.out
  obtain ⟨tl, htl⟩ : ∃ x, Hid (TL.length = x) := ⟨_, rfl⟩
  rw [htl.out] at ownN ⊢
  obtain ⟨v4, hv4⟩ : ∃ X, Hid (X = w4.alloc (.cells #[.int .i64 tc, .slice ta tl tk] 33)) := ⟨_, rfl⟩
  have F4 : Hid (Below w.heap.size w v4 ∧ Below w1.heap.size w1 v4 ∧ Below w3.heap.size w3 v4 ∧ IR v4 E (.int .i64 ec) (.string et) ∧ IR v4 w4.heap.size (.int .i64 tc) (.slice ta tl tk) ∧ OwnS v4 w3.heap.size (.slice ta tl tk) TL) := by
    have al : Below w4.heap.size w4 (w4.alloc (.cells #[.int .i64 tc, .slice ta tl tk] 33)) := (Below.refl _ _).alloc (Nat.le_refl _) _
    have q := hb4.trans (al.mono hb4.size)
    obtain ⟨f1, f2, f3⟩ := F3.out
    rw [hv4.out]
    exact ⟨f1.trans (q.mono f1.size), f2.trans (q.mono f2.size), q, (f3.keep hb4).keep al, IR.new _ _ _ _, ownN.below al⟩
  clear hb4 F3 HIT ownN
  go_upto_region 7 with fail
  rw [← hv4.out]
  clear hv4
  generalize w4.heap.size = N at *
  try clear w4
  go_cut [55] from 23 to 55 (fun s55 wx => s55 = .bool false ∧ Below v4.heap.size v4 wx)
  case first =>
    have hf1 := tfC
    have hf2 := nfC
    have hf3 := nfN
    have hbv : (vf != vf) = false := by simp
    have B0 : Hid (Below v4.heap.size v4 v4.drew) := (Below.refl _ _).drew
    have HKS : Hid (∀ X, Below v4.heap.size v4 X → (fun X : World => X.cell? ⟨E, 0, none⟩ = some (.int .i64 ec) ∧ X.cell? ⟨N, 0, none⟩ = some (.int .i64 tc) ∧ X.cell? ⟨N, 1, none⟩ = some (.slice ta tl tk)) X) := fun X hb => ⟨(F4.out.2.2.2.1.keep hb).c0, (F4.out.2.2.2.2.1.keep hb).c0, (F4.out.2.2.2.2.1.keep hb).c1⟩
    have HV1 : Hid (∀ X, Below v4.heap.size v4 X → Calls Tryz.prog 9 #[.slice pa ln pc, .slice na tn nc] X fun e w' => e = .returned (.bool vf) ∧ Below X.heap.size X w') := fun X hb => HIV.out X (F4.out.2.1.trans (hb.mono F4.out.2.1.size))
    have HV2 : Hid (∀ X, Below v4.heap.size v4 X → Calls Tryz.prog 10 #[.slice pa ln pc, .slice na tn nc] X fun e w' => e = .returned (.bool vf) ∧ Below X.heap.size X w') := fun X hb => HSV.out X (F4.out.2.1.trans (hb.mono F4.out.2.1.size))
    have HE2 : Hid (∀ X, Below v4.heap.size v4 X → Calls Tryz.prog 11 #[.slice pa ln pc] X fun e w' => e = .returned (.agg #[.int .i64 ec, .string et]) ∧ Below X.heap.size X w') := fun X hb => HSE.out X (F4.out.2.1.trans (hb.mono F4.out.2.1.size))
    have HT2 : Hid (∀ X, Below v4.heap.size v4 X → Calls Tryz.prog 12 #[.slice ma mn mc] X fun e w' => (∃ xa xk, e = .returned (.agg #[.int .i64 tc, .slice xa tl xk])) ∧ Below X.heap.size X w') := fun X hb => (HST.out X (F4.out.2.2.1.trans (hb.mono F4.out.2.2.1.size))).mono fun _ _ ⟨⟨v, h1, ho⟩, h2⟩ => by
      obtain ⟨xa, xk, rfl, _⟩ := ho.tin
      rw [htl.out] at h1
      exact ⟨⟨xa, xk, h1⟩, h2⟩
    go_region_held3 (fun X => X.cell? ⟨E, 0, none⟩ = some (.int .i64 ec) ∧ X.cell? ⟨N, 0, none⟩ = some (.int .i64 tc) ∧ X.cell? ⟨N, 1, none⟩ = some (.slice ta tl tk))
      (first | ((with_reducible refine HKS.out _ ?_); (with_reducible exact B5.out)) | ((with_reducible refine HKS.out _ ?_); (with_reducible exact B4.out)) | ((with_reducible refine HKS.out _ ?_); (with_reducible exact B3.out)) | ((with_reducible refine HKS.out _ ?_); (with_reducible exact B2.out)) | ((with_reducible refine HKS.out _ ?_); (with_reducible exact B1.out)) | ((with_reducible refine HKS.out _ ?_); (with_reducible exact B0.out)))
      (first
      | (go_at_call 12; (with_reducible refine (HT2.out _ ?_).mono ?_); (with_reducible exact B4.out); rintro r x5 ⟨⟨ya, yk, rfl⟩, hx⟩; have B5 : Hid (Below v4.heap.size v4 x5) := B4.out.trans (hx.mono B4.out.size); clear hx)
      | (go_at_call 12; (with_reducible refine (HT2.out _ ?_).mono ?_); (with_reducible exact B3.out); rintro r x4 ⟨⟨xa, xk, rfl⟩, hx⟩; have B4 : Hid (Below v4.heap.size v4 x4) := B3.out.trans (hx.mono B3.out.size); clear hx)
      | (go_at_call 11; (with_reducible refine (HE2.out _ ?_).mono ?_); (with_reducible exact B2.out); rintro r x3 ⟨rfl, hx⟩; have B3 : Hid (Below v4.heap.size v4 x3) := B2.out.trans (hx.mono B2.out.size); clear hx)
      | (go_at_call 10; (with_reducible refine (HV2.out _ ?_).mono ?_); (with_reducible exact B1.out); rintro r x2 ⟨rfl, hx⟩; have B2 : Hid (Below v4.heap.size v4 x2) := B1.out.trans (hx.mono B1.out.size); clear hx)
      | (go_at_call 9; (with_reducible refine (HV1.out _ ?_).mono ?_); (with_reducible exact B0.out); rintro r x1 ⟨rfl, hx⟩; have B1 : Hid (Below v4.heap.size v4 x1) := B0.out.trans (hx.mono B0.out.size); clear hx))
    all_goals (go_wp2_with fail; go_meet; exact ⟨rfl, B5.out⟩)
  case rest =>
  obtain ⟨rfl, hbx⟩ := hcut
  have F5 : Hid (Below w.heap.size w wc ∧ Below w1.heap.size w1 wc ∧ IR wc E (.int .i64 ec) (.string et) ∧ IR wc N (.int .i64 tc) (.slice ta tl tk) ∧ OwnS wc w3.heap.size (.slice ta tl tk) TL) := by
    obtain ⟨f1, f2, _, f4, f5, f6⟩ := F4.out
    exact ⟨f1.trans (hbx.mono f1.size), f2.trans (hbx.mono f2.size), f4.keep hbx, f5.keep hbx, f6.below hbx⟩
  clear hbx F4 HIV HSV HST
  generalize wc = v5 at *
  generalize w3.heap.size = B3z at *
  try clear v4
  try clear w3
  have HITg : Hid (∀ X x, Below v5.heap.size v5 X → x ∈ TL → Calls Tryz.prog 13 #[.slice ta tl tk, .string x] X fun e w' => e = .returned (.bool true) ∧ w' = X) := fun X x hb hx => by
    have := implTagged_any X ta tk TL x (by have := HNl.out; omega) (owns_in (F5.out.2.2.2.2.below hb)).2
    rw [htl.out, show tagB TL x = true from List.any_eq_true.2 ⟨x, hx, by simp⟩] at this
    exact this
  have ht10 : tl ≤ 10 := by have := HNl.out; have := htl.out; omega
  go_upto_region 10 with fail
  go_loopw [8] (fun i wr => ∃ k : Nat, k ≤ tl ∧ i = .int .i64 k ∧ Below v5.heap.size v5 wr) (fun i _ => tl - (intOf i).toNat)
  case atStart => exact ⟨0, Nat.zero_le _, rfl, Below.refl _ _⟩
  case round =>
    obtain ⟨k, hk, rfl, hbr⟩ := hrel
    have HBR : Hid (Below v5.heap.size v5 wr) := hbr
    clear hbr
    have n1 := (F5.out.2.2.2.1.keep HBR.out).c1
    by_cases hlt : k < tl
    · have gk : (k : Int) < (tl : Int) := by omega
      have gk0 : (0 : Int) ≤ (k : Int) := by omega
      obtain ⟨x, hx⟩ : ∃ x, TL[k]? = some x := ⟨TL[k]'(by have := htl.out; omega), List.getElem?_eq_getElem _⟩
      have HXM : Hid (x ∈ TL) := List.mem_of_getElem? hx
      have hxe : (x.toList == (⟨#[]⟩ : ByteArray).toList) = false := tag_ne (HTF.out x HXM.out)
      have hxe2 : x.toList.isEmpty = false := by
        rw [List.isEmpty_eq_false_iff]
        intro e
        rw [ByteArray.toList_eq] at e
        exact HTF.out x HXM.out (ByteArray.ext (Array.ext' (by simpa using e)))
      obtain ⟨tb, tof, rfl, hat⟩ : ∃ tb tof, ta = some ⟨tb, tof, none⟩ ∧ TAt wr tb tof TL := by
        rcases (owns_in (F5.out.2.2.2.2.below HBR.out)).2 with h | ⟨b, off, e, h⟩
        · subst h; simp at hx
        · exact ⟨b, off, e, h⟩
      have HXC : Hid (wr.cell? ⟨tb, tof + k, none⟩ = some (.string x)) := hat k x hx
      clear hat hx
      go_upto_region 12 with fail
      clear n1
      have qq0 := cell_regrown (F5.out.2.2.2.1.keep HBR.out).c1
      have qq1 := cell_regrown HXC.out
      have k0 : ∀ d' os, Calls Tryz.prog 13 #[.slice (some ⟨tb, tof, none⟩) tl tk, .string x] (grow (redrawn wr d') os) fun e w'' => e = .returned (.bool true) ∧ ∃ p : Regrown, w'' = grow (redrawn wr p.d) p.os := fun d' os => Calls.regrown_of ((HITg.out _ x (HBR.out.trans ((below_regrown wr d' os).mono HBR.out.size)) HXM.out).mono fun _ _ ⟨h1, h2⟩ => ⟨h1, by rw [h2]; exact Below.refl _ _⟩)
      refine wp_region_quiet_below (by kernel_rfl) (by kernel_rfl) ?_
      repeat (go_big_quiet_step (first | (go_at_call 13; exact k0 _ _)))
      refine wpQuiet_nil ?_
      intro W2 hW2
      have hbW2 : Hid (Below wr.heap.size wr W2) := by
        obtain ⟨⟨d, os⟩, rfl⟩ := hW2
        exact below_regrown wr d os
      clear hW2 qq0 qq1 k0
      go_wp2_with fail
      go_roundw
      case rel => exact ⟨k + 1, by omega, by go_num, HBR.out.trans (hbW2.out.mono HBR.out.size)⟩
      case measure => simp [intOf]; omega
    · have hke : k = tl := by omega
      subst hke
      have F6 : Hid (Below w.heap.size w wr ∧ Below w1.heap.size w1 wr ∧ IR wr E (.int .i64 ec) (.string et)) := by
        obtain ⟨f1, f2, f3, _⟩ := F5.out
        have q := HBR.out
        exact ⟨f1.trans (q.mono f1.size), f2.trans (q.mono f2.size), f3.keep q⟩
      go_upto_region 14 with fail
      clear HBR F5 HITg n1
      go_wp2_with fail
      refine (HDR.out _ F6.out.2.1).mono ?_
      rintro r w7 ⟨⟨v, rfl, ownD⟩, hb7⟩
      obtain ⟨da, dk, rfl, hzz⟩ := ownD.at
      clear hzz
      have HDK : Hid (DL.length ≤ dk) := (ownh_in ownD).2.1
      obtain ⟨dl, hdl⟩ : ∃ x, Hid (DL.length = x) := ⟨_, rfl⟩
      rw [hdl.out] at ownD ⊢
      obtain ⟨v7, hv7⟩ : ∃ X, Hid (X = w7.alloc (.cells #[.int .i64 dc, .slice da dl dk] 38)) := ⟨_, rfl⟩
      have F7 : Hid (Below w.heap.size w v7 ∧ Below w1.heap.size w1 v7 ∧ IR v7 E (.int .i64 ec) (.string et) ∧ IR v7 w7.heap.size (.int .i64 dc) (.slice da dl dk) ∧ OwnH v7 wr.heap.size (.slice da dl dk) DL) := by
        have al : Below w7.heap.size w7 (w7.alloc (.cells #[.int .i64 dc, .slice da dl dk] 38)) := (Below.refl _ _).alloc (Nat.le_refl _) _
        have q := hb7.trans (al.mono hb7.size)
        obtain ⟨f1, f2, f3⟩ := F6.out
        rw [hv7.out]
        exact ⟨f1.trans (q.mono f1.size), f2.trans (q.mono f2.size), (f3.keep hb7).keep al, IR.new _ _ _ _, ownD.below al⟩
      clear hb7 F6 HDR ownD
      go_upto_region 15 with fail
      rw [← hv7.out]
      clear hv7
      generalize w7.heap.size = D at *
      try clear w7
      have hf1 := tfC
      have hf2 := tfT
      have hbe : (et.toList == et.toList) = true := by simp
      have e0q := cell_regrown F7.out.2.2.1.c1
      have d0q := cell_regrown F7.out.2.2.2.1.c0
      have d1q := cell_regrown F7.out.2.2.2.1.c1
      have k0 : ∀ d' os, Calls Tryz.prog 11 #[.slice pa ln pc] (grow (redrawn v7 d') os) fun e w'' => e = .returned (.agg #[.int .i64 ec, .string et]) ∧ ∃ p : Regrown, w'' = grow (redrawn v7 p.d) p.os := fun d' os => Calls.regrown_of (HSE.out _ (F7.out.2.1.trans ((below_regrown v7 d' os).mono F7.out.2.1.size)))
      by_cases kd : dc = 0
      · have k1 : ∀ d' os, Calls Tryz.prog 9 #[.slice da dl dk, .slice na tn nc] (grow (redrawn v7 d') os) fun e w'' => e = .returned (.bool (decide (nmc = 0))) ∧ ∃ p : Regrown, w'' = grow (redrawn v7 p.d) p.os := fun d' os => by
          have hb := (below_regrown v7 d' os)
          have := HBV.out (grow (redrawn v7 d') os) da dk (F7.out.2.1.trans (hb.mono F7.out.2.1.size)) kd (ownh_in (F7.out.2.2.2.2.below hb)).2.2 HDK.out
          rw [hdl.out] at this
          exact Calls.regrown_of this
        have k2 : ∀ d' os, Calls Tryz.prog 15 #[.agg #[.string ⟨#[71, 69, 84]⟩, .string ⟨#[97]⟩, .string ⟨#[47]⟩, .slice none 0 0], .slice na tn nc] (grow (redrawn v7 d') os) fun e w'' => e = .returned (.agg #[.int .i64 nmc, .string fkt]) ∧ ∃ p : Regrown, w'' = grow (redrawn v7 p.d) p.os := fun d' os => Calls.regrown_of (HFR.out _ (F7.out.2.1.trans ((below_regrown v7 d' os).mono F7.out.2.1.size)))
        subst kd
        clear HBV HFR HSE
        by_cases kn : nmc = 0
        · have dn : decide (nmc = 0) = true := by simp [kn]
          rw [dn] at k1
          subst kn
          refine wp_region_quiet_below (by kernel_rfl) (by kernel_rfl) ?_
          repeat (go_big_quiet_step (first | (go_at_call 11; exact k0 _ _) | (go_at_call 9; exact k1 _ _) | (go_at_call 15; exact k2 _ _)))
          refine wpQuiet_nil ?_
          intro W2 hW2
          have hbW2 : Hid (Below v7.heap.size v7 W2) := by
            obtain ⟨⟨d, os⟩, rfl⟩ := hW2
            exact below_regrown v7 d os
          clear hW2 k0 k1 k2 e0q d0q d1q
          go_wp2_with fail
          go_ret
          exact ⟨rfl, F7.out.1.trans (hbW2.out.mono F7.out.1.size)⟩
        · have dn : decide (nmc = 0) = false := by simp [kn]
          have dn2 : (nmc == 0) = false := by simpa using kn
          rw [dn] at k1
          clear kn dn
          refine wp_region_quiet_below (by kernel_rfl) (by kernel_rfl) ?_
          repeat (go_big_quiet_step (first | (go_at_call 11; exact k0 _ _) | (go_at_call 9; exact k1 _ _) | (go_at_call 15; exact k2 _ _)))
          refine wpQuiet_nil ?_
          intro W2 hW2
          have hbW2 : Hid (Below v7.heap.size v7 W2) := by
            obtain ⟨⟨d, os⟩, rfl⟩ := hW2
            exact below_regrown v7 d os
          clear hW2 k0 k1 k2 e0q d0q d1q
          go_wp2_with fail
          go_ret
          exact ⟨rfl, F7.out.1.trans (hbW2.out.mono F7.out.1.size)⟩
      · have dn : (dc != 0) = true := by simpa using kd
        clear kd HBV HFR HSE
        refine wp_region_quiet_below (by kernel_rfl) (by kernel_rfl) ?_
        repeat (go_big_quiet_step (first | (go_at_call 11; exact k0 _ _)))
        refine wpQuiet_nil ?_
        intro W2 hW2
        have hbW2 : Hid (Below v7.heap.size v7 W2) := by
          obtain ⟨⟨d, os⟩, rfl⟩ := hW2
          exact below_regrown v7 d os
        clear hW2 k0 e0q d0q d1q
        go_wp2_with fail
        go_ret
        exact ⟨rfl, F7.out.1.trans (hbW2.out.mono F7.out.1.size)⟩
end nms
end Go.Proofs.YtmnblligifgcjaaGreatDoor
