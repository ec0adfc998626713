/-
  Texts of one claim, one behind the other.
-/
import Derived.BigQuiet
import Derived.Deep.CutBlock
import Derived.Deep.CutRange
import Derived.Deep.RegionHeld3
import Derived.Deep.RegionWith
import Derived.Laws.BytesArg
import Derived.Lib.QuietBelow
import Derived.Maps.AppendAt
import Derived.Shelf.Small.Wraps
import Derived.Shelf.Sort.Plain
import Derived.Shelf.Strings.Cut
import Derived.Shelf.Strings.FieldsFuncAny
import Derived.Shelf.Strings.Prefix
import Derived.Shelf.Strings.Split
import Derived.Sort.OwnSorted
import Derived.Test.YtonnggelpjjmmaaGreatDoorRdC
/-
  What SameResponses and its model answer.
-/
namespace Go.Proofs.YtonnggelpjjmmaaGreatDoor
open Go.ChangeShapes Go.WideShapes Go.ChangeAt Go.RowKit
theorem bytes_text {w : World} {a : Option Addr} {l : List UInt8} (c : Nat) (h : BIn w a l) : (convert 22 9 (.slice a l.length c)).run Tryz.prog w = .ok (.string ⟨l.toArray⟩) w := by
  cases a with
  | none =>
    rcases h with h | ⟨b, off, e, _⟩
    · subst h
      exact run_convert_bytes_nil w 22 5 Tryz.underlying22 Tryz.underlying5 0 c 9 Tryz.underlying9
    · cases e
  | some x =>
    refine run_convert_bytes_back w 22 9 5 x c l Tryz.underlying22 Tryz.underlying5 Tryz.underlying9 ?_
    intro j hj
    rcases h with h | ⟨b, off, e, hat⟩
    · subst h; simp at hj
    · obtain rfl := Option.some.inj e
      have hadd : (⟨b, off, none⟩ : Addr).add j = ⟨b, off + j, none⟩ := by unfold Addr.add; split <;> simp_all
      rw [hadd]
      exact hat j l[j] (List.getElem?_eq_getElem hj)
def sameP (s : Int) (l : List Hdr) (bl : List UInt8) (s' : Int) (l' : List Hdr) (bl' : List UInt8) : Bool := (s == s') && sameHs l l' && ((⟨bl.toArray⟩ : ByteArray).toList == (⟨bl'.toArray⟩ : ByteArray).toList)
set_option maxHeartbeats 400000 in
theorem bytesEqual_any (w : World) (a b : Option Addr) (ca cb : Nat) (l m : List UInt8) (h1 : BIn w a l) (h2 : BIn w b m) :
    Calls Tryz.prog 45 #[.slice a l.length ca, .slice b m.length cb] w fun e w' => e = .returned (.bool ((⟨l.toArray⟩ : ByteArray).toList == (⟨m.toArray⟩ : ByteArray).toList)) ∧ w' = w := by
  have e1 := bytes_text ca h1
  have e2 := bytes_text cb h2
  generalize (⟨l.toArray⟩ : ByteArray) = x at *
  generalize (⟨m.toArray⟩ : ByteArray) = y at *
  generalize l.length = n at *
  generalize m.length = k at *
  clear h1 h2
  go_enter Tryz.func45, Tryz.ntmps45
  go_wp2_with fail
  go_ret
  exact ⟨rfl, rfl⟩
set_option maxHeartbeats 4000000 in
theorem specSameP_any (w : World) (s : Int) (a : Option Addr) (ca : Nat) (l : List Hdr) (c : Option Addr) (cc : Nat) (bl : List UInt8) (s' : Int) (b : Option Addr) (cb : Nat) (l' : List Hdr) (d : Option Addr) (cd : Nat) (bl' : List UInt8) (hl : l.length ≤ 1048576) (h1 : HdsIn w a l) (h2 : HdsIn w b l') (k1 : BIn w c bl) (k2 : BIn w d bl') :
    Calls Tryz.prog 19 #[.agg #[.int .i64 s, .slice a l.length ca, .slice c bl.length cc], .agg #[.int .i64 s', .slice b l'.length cb, .slice d bl'.length cd]] w fun e w' => e = .returned (.bool (sameP s l bl s' l' bl')) ∧ Below w.heap.size w w' := by
  have HE : Hid (sameP s l bl s' l' bl' = ((s == s') && sameHs l l' && ((⟨bl.toArray⟩ : ByteArray).toList == (⟨bl'.toArray⟩ : ByteArray).toList))) := rfl
  obtain ⟨V, hV⟩ : ∃ V, V = ((w.alloc (.cells #[.int .i64 s, .slice a l.length ca, .slice c bl.length cc] 32)).alloc (.cells #[.int .i64 s', .slice b l'.length cb, .slice d bl'.length cd] 32)) := ⟨_, rfl⟩
  have HV : Hid (V = ((w.alloc (.cells #[.int .i64 s, .slice a l.length ca, .slice c bl.length cc] 32)).alloc (.cells #[.int .i64 s', .slice b l'.length cb, .slice d bl'.length cd] 32))) := hV
  have bV : Below w.heap.size w V := by rw [hV]; exact ((Below.refl _ _).alloc (Nat.le_refl _) _).alloc (by simp) _
  have c1 : V.cell? ⟨w.heap.size, 2, none⟩ = some (.slice c bl.length cc) := by rw [hV, World.cell?_alloc_past _ _ _ (by simp), World.cell?_alloc_mark]; rfl
  have c2 : V.cell? ⟨w.heap.size + 1, 2, none⟩ = some (.slice d bl'.length cd) := by
    rw [hV]
    have : (w.alloc (.cells #[.int .i64 s, .slice a l.length ca, .slice c bl.length cc] 32)).heap.size = w.heap.size + 1 := by simp
    rw [← this, World.cell?_alloc_mark]; rfl
  have hs : V.heap.size = w.heap.size + 2 := by rw [hV]; simp
  have C := specSameH_any V a b ca cb l l' hl (h1.keep bV) (h2.keep bV)
  have HK : Hid (∀ X, Below w.heap.size w X → BIn X c bl ∧ BIn X d bl') := fun X hb => ⟨k1.keep hb, k2.keep hb⟩
  have HB : Hid (Below w.heap.size w V) := bV
  have HC : Hid (∀ X, Below V.heap.size V X → X.cell? ⟨w.heap.size, 2, none⟩ = some (.slice c bl.length cc) ∧ X.cell? ⟨w.heap.size + 1, 2, none⟩ = some (.slice d bl'.length cd)) := fun X hb => ⟨by rw [hb.cell (p := ⟨w.heap.size, 2, none⟩) (by simp only; omega)]; exact c1, by rw [hb.cell (p := ⟨w.heap.size + 1, 2, none⟩) (by simp only; omega)]; exact c2⟩
  clear bV h1 h2 hV k1 k2 hs c1 c2
  generalize sameHs l l' = sb at *
  generalize sameP s l bl s' l' bl' = q at *
  generalize l.length = n at *
  generalize l'.length = n' at *
  cases c1 : (s == s')
  · have HV2 : Hid (q = false) := by show _ = _; rw [HE.out, c1]; rfl
    rw [HV.out] at HB
    clear HE C HK HC
    generalize bl.length = k at *
    generalize bl'.length = k' at *
    go_enter Tryz.func19, Tryz.ntmps19
    go_wp2_with fail
    go_ret
    exact ⟨ret_bool HV2.out.symm, HB.out⟩
  go_enter Tryz.func19, Tryz.ntmps19
  go_wp2_with fail
  rw [← HV.out]
  refine C.mono ?_
  rintro e w1 ⟨rfl, hb1⟩
  have HB1 : Hid (Below w.heap.size w w1) := HB.out.trans (hb1.mono HB.out.size)
  obtain ⟨p1, p2⟩ := HC.out w1 hb1
  obtain ⟨i1, i2⟩ := HK.out w1 HB1.out
  clear hb1 C HB HV HC HK
  cases sb
  · have HV2 : Hid (q = false) := by show _ = _; rw [HE.out, c1]; rfl
    clear HE i1 i2
    go_wp2_with fail
    go_ret
    exact ⟨ret_bool HV2.out.symm, HB1.out⟩
  have HV2 : Hid (q = ((⟨bl.toArray⟩ : ByteArray).toList == (⟨bl'.toArray⟩ : ByteArray).toList)) := by show _ = _; rw [HE.out, c1]; rfl
  clear HE
  have e1 := bytes_text cc i1
  have e2 := bytes_text cd i2
  clear i1 i2
  generalize (⟨bl.toArray⟩ : ByteArray) = x at *
  generalize (⟨bl'.toArray⟩ : ByteArray) = y at *
  generalize bl.length = k at *
  generalize bl'.length = k' at *
  go_wp2_with fail
  go_ret
  exact ⟨ret_bool HV2.out.symm, HB1.out⟩
set_option maxHeartbeats 4000000 in
theorem implSameP_any (w : World) (s : Int) (a : Option Addr) (ca : Nat) (l : List Hdr) (c : Option Addr) (cc : Nat) (bl : List UInt8) (s' : Int) (b : Option Addr) (cb : Nat) (l' : List Hdr) (d : Option Addr) (cd : Nat) (bl' : List UInt8) (hl : l.length ≤ 1048576) (h1 : HdsIn w a l) (h2 : HdsIn w b l') (k1 : BIn w c bl) (k2 : BIn w d bl') :
    Calls Tryz.prog 18 #[.agg #[.int .i64 s, .slice a l.length ca, .slice c bl.length cc], .agg #[.int .i64 s', .slice b l'.length cb, .slice d bl'.length cd]] w fun e w' => e = .returned (.bool (sameP s l bl s' l' bl')) ∧ Below w.heap.size w w' := by
  have HE : Hid (sameP s l bl s' l' bl' = ((s == s') && sameHs l l' && ((⟨bl.toArray⟩ : ByteArray).toList == (⟨bl'.toArray⟩ : ByteArray).toList))) := rfl
  obtain ⟨V, hV⟩ : ∃ V, V = ((w.alloc (.cells #[.int .i64 s, .slice a l.length ca, .slice c bl.length cc] 32)).alloc (.cells #[.int .i64 s', .slice b l'.length cb, .slice d bl'.length cd] 32)) := ⟨_, rfl⟩
  have HV : Hid (V = ((w.alloc (.cells #[.int .i64 s, .slice a l.length ca, .slice c bl.length cc] 32)).alloc (.cells #[.int .i64 s', .slice b l'.length cb, .slice d bl'.length cd] 32))) := hV
  have bV : Below w.heap.size w V := by rw [hV]; exact ((Below.refl _ _).alloc (Nat.le_refl _) _).alloc (by simp) _
  have c1 : V.cell? ⟨w.heap.size, 2, none⟩ = some (.slice c bl.length cc) := by rw [hV, World.cell?_alloc_past _ _ _ (by simp), World.cell?_alloc_mark]; rfl
  have c2 : V.cell? ⟨w.heap.size + 1, 2, none⟩ = some (.slice d bl'.length cd) := by
    rw [hV]
    have : (w.alloc (.cells #[.int .i64 s, .slice a l.length ca, .slice c bl.length cc] 32)).heap.size = w.heap.size + 1 := by simp
    rw [← this, World.cell?_alloc_mark]; rfl
  have hs : V.heap.size = w.heap.size + 2 := by rw [hV]; simp
  have C := implSameH_any V a b ca cb l l' hl (h1.keep bV) (h2.keep bV)
  have HK : Hid (∀ X, Below w.heap.size w X → BIn X c bl ∧ BIn X d bl') := fun X hb => ⟨k1.keep hb, k2.keep hb⟩
  have HB : Hid (Below w.heap.size w V) := bV
  have HC : Hid (∀ X, Below V.heap.size V X → X.cell? ⟨w.heap.size, 2, none⟩ = some (.slice c bl.length cc) ∧ X.cell? ⟨w.heap.size + 1, 2, none⟩ = some (.slice d bl'.length cd)) := fun X hb => ⟨by rw [hb.cell (p := ⟨w.heap.size, 2, none⟩) (by simp only; omega)]; exact c1, by rw [hb.cell (p := ⟨w.heap.size + 1, 2, none⟩) (by simp only; omega)]; exact c2⟩
  clear bV h1 h2 hV k1 k2 hs c1 c2
  generalize sameHs l l' = sb at *
  generalize sameP s l bl s' l' bl' = q at *
  generalize l.length = n at *
  generalize l'.length = n' at *
  cases c1 : (s == s')
  · have HV2 : Hid (q = false) := by show _ = _; rw [HE.out, c1]; rfl
    rw [HV.out] at HB
    clear HE C HK HC
    generalize bl.length = k at *
    generalize bl'.length = k' at *
    go_enter Tryz.func18, Tryz.ntmps18
    go_wp2_with fail
    go_ret
    exact ⟨ret_bool HV2.out.symm, HB.out⟩
  go_enter Tryz.func18, Tryz.ntmps18
  go_wp2_with fail
  rw [← HV.out]
  refine C.mono ?_
  rintro e w1 ⟨rfl, hb1⟩
  have HB1 : Hid (Below w.heap.size w w1) := HB.out.trans (hb1.mono HB.out.size)
  obtain ⟨p1, p2⟩ := HC.out w1 hb1
  obtain ⟨i1, i2⟩ := HK.out w1 HB1.out
  clear hb1 C HB HV HC HK
  cases sb
  · have HV2 : Hid (q = false) := by show _ = _; rw [HE.out, c1]; rfl
    clear HE i1 i2
    go_wp2_with fail
    go_ret
    exact ⟨ret_bool HV2.out.symm, HB1.out⟩
  have HV2 : Hid (q = ((⟨bl.toArray⟩ : ByteArray).toList == (⟨bl'.toArray⟩ : ByteArray).toList)) := by show _ = _; rw [HE.out, c1]; rfl
  clear HE
  have C2 := bytesEqual_any w1 c d cc cd bl bl' i1 i2
  clear i1 i2
  generalize (⟨bl.toArray⟩ : ByteArray) = x at *
  generalize (⟨bl'.toArray⟩ : ByteArray) = y at *
  generalize bl.length = k at *
  generalize bl'.length = k' at *
  go_wp2_with fail
  refine C2.mono ?_
  rintro e w2 ⟨rfl, hw⟩
  obtain rfl := hw.symm
  clear C2 hw
  go_wp2_with fail
  go_ret
  exact ⟨ret_bool HV2.out.symm, HB1.out⟩
end Go.Proofs.YtonnggelpjjmmaaGreatDoor
/-
  What the model's l1Cut answers, at longer texts.
-/
namespace Go.Proofs.YtonnggelpjjmmaaGreatDoor
open Go.ChangeShapes Go.WideShapes Go.ChangeAt Go.RowKit
set_option maxRecDepth 100000 in
set_option maxHeartbeats 8000000 in
theorem l1CutW_any (s : ByteArray) (c : UInt8) (w : World) (hs : s.size ≤ 10100) :
    Calls Tryz.prog 92 #[.string s, .int .u8 (c.toNat : Int)] w fun e w' => CutRes (cutG c [] s.data.toList) w.heap.size e w' ∧ Below w.heap.size w w' := by
  go_enter Tryz.func92, Tryz.ntmps92
  go_wp2_with fail
  go_loopw [5, 6, 7] (fun v fr i wr => ∃ (O : List (List UInt8)) (f k : Nat), fr = .int .i64 (f : Int) ∧ i = .int .i64 (k : Int) ∧ (CtAt s c O f k ∨ (k = s.size + 1 ∧ cutG c [] s.data.toList = O)) ∧ OwnS wr w.heap.size v (O.map hmk) ∧ Below w.heap.size w wr) (fun _ _ i _ => s.size + 1 - (intOf i).toNat)
  case atStart => exact ⟨[], 0, 0, rfl, rfl, .inl (CtAt.start s c), ownS_made0 w w.heap.size (Nat.le_refl _), (Below.refl _ _).alloc (Nat.le_refl _) _⟩
  case round =>
    obtain ⟨O, f, k, rfl, rfl, hL, ho, hb⟩ := hrel
    have HO : Hid (OwnS wr w.heap.size u5 (O.map hmk)) := ho
    have hzb := hb.size
    clear ho
    rcases hL with hL | ⟨hk, hL⟩
    · have HL : Hid (CtAt s c O f k) := hL
      have hfk := hL.fk
      have hks := hL.ks
      have hol := hL.ol
      clear hL
      have g0 : (k : Int) ≤ s.size := by omega
      have gf0 : (0 : Int) ≤ f := by omega
      have gfk : (f : Int) ≤ k := by omega
      have HE : Hid (s.extract f k = hmk ((s.data.toList.drop f).take (k - f))) := hext_mk s f k
      have HM : Hid ((O ++ [(s.data.toList.drop f).take (k - f)]).map hmk = O.map hmk ++ [s.extract f k]) := by show _ = _; rw [List.map_append, HE.out]; rfl
      have hml : (O.map hmk).length ≤ 10100 := by rw [List.length_map]; omega
      by_cases hlt : k < s.size
      · have de : ((k : Int) == (s.size : Int)) = false := by simp; omega
        by_cases hc : s[k] = c
        · have HN : Hid (CtAt s c (O ++ [(s.data.toList.drop f).take (k - f)]) (k + 1) (k + 1)) := HL.out.hit hlt hc
          have dc : ((s[k].toNat : Int) == (c.toNat : Int)) = true := by rw [hc]; simp
          clear HL hc HE
          generalize O.map hmk = OM at *
          go_wp2_with (at_builtin; refine wpList_append_str _ rfl (.tmp 26) (.tmp 31) rfl w.heap.size _ OM (s.extract f k) rfl rfl HO.out (by omega) hzb ?_; intro v4 w4 HO4 hb4 hz4)
          go_roundw
          case rel => exact ⟨_, k + 1, k + 1, by go_num, by go_num, .inl HN.out, by rw [HM.out]; exact HO4, hb.trans hb4⟩
          case measure => simp [intOf]; omega
        · have HN : Hid (CtAt s c O f (k + 1)) := HL.out.on hlt hc
          have dc : ((s[k].toNat : Int) == (c.toNat : Int)) = false := by
            rw [beq_eq_false_iff_ne]
            intro e
            exact hc (UInt8.toNat_inj.1 (by omega))
          clear HL hc HE HM
          go_wp2_with fail
          go_roundw
          case rel => exact ⟨O, f, k + 1, rfl, by go_num, .inl HN.out, HO.out, hb⟩
          case measure => simp [intOf]; omega
      · have ek : k = s.size := by omega
        subst ek
        have HN : Hid (cutG c [] s.data.toList = O ++ [(s.data.toList.drop f).take (s.size - f)]) := HL.out.last
        have de : ((s.size : Int) == (s.size : Int)) = true := by simp
        clear HL HE
        generalize O.map hmk = OM at *
        go_wp2_with (at_builtin; refine wpList_append_str _ rfl (.tmp 26) (.tmp 31) rfl w.heap.size _ OM (s.extract f s.size) rfl rfl HO.out (by omega) hzb ?_; intro v4 w4 HO4 hb4 hz4)
        go_roundw
        case rel => exact ⟨_, s.size + 1, s.size + 1, by go_num, by go_num, .inr ⟨rfl, HN.out⟩, by rw [HM.out]; exact HO4, hb.trans hb4⟩
        case measure => simp [intOf]
    · have g0 : ¬ (k : Int) ≤ s.size := by omega
      have HL : Hid (cutG c [] s.data.toList = O) := hL
      clear hL
      go_wp2_with fail
      go_ret
      exact ⟨⟨_, rfl, by rw [HL.out]; exact HO.out⟩, hb⟩
end Go.Proofs.YtonnggelpjjmmaaGreatDoor
/-
  What the model's l5Key answers.
-/
namespace Go.Proofs.YtonnggelpjjmmaaGreatDoor
open Go.ChangeShapes Go.WideShapes Go.ChangeAt Go.RowKit
/-- How many bytes lie ahead of the first '?'. -/
def qAt : List UInt8 → Nat
  | [] => 0
  | x :: l => if x = 63 then 0 else qAt l + 1
theorem qAt_le : ∀ l : List UInt8, qAt l ≤ l.length
  | [] => Nat.le_refl _
  | x :: l => by
    rw [qAt]
    split
    · exact Nat.zero_le _
    · have := qAt_le l; simp; omega
theorem qAt_stop : ∀ (l : List UInt8) (k : Nat) (h : k < l.length), k ≤ qAt l → l[k] = 63 → qAt l = k
  | [], k, h, _, _ => by simp at h
  | x :: l, 0, _, _, h63 => by
    have : x = 63 := h63
    rw [qAt, if_pos this]
  | x :: l, k + 1, h, hk, h63 => by
    rw [qAt] at hk ⊢
    split at hk
    · omega
    · rename_i hx
      rw [if_neg hx, qAt_stop l k (by simpa using h) (by omega) h63]
theorem qAt_on : ∀ (l : List UInt8) (k : Nat) (h : k < l.length), k ≤ qAt l → ¬ l[k] = 63 → k + 1 ≤ qAt l
  | [], k, h, _, _ => by simp at h
  | x :: l, 0, _, _, h63 => by
    have : ¬ x = 63 := h63
    rw [qAt, if_neg this]; omega
  | x :: l, k + 1, h, hk, h63 => by
    rw [qAt] at hk ⊢
    split at hk
    · omega
    · rename_i hx
      rw [if_neg hx]
      have := qAt_on l k (by simpa using h) (by omega) h63
      omega
/-- What stands behind the path in a key. -/
def keyQ (ps : List (List UInt8)) : List UInt8 := if ps = [] then [] else 63 :: Lib.join ps [38]
theorem keyQ_nil : keyQ [] = [] := rfl
theorem join_snoc (ps : List (List UInt8)) (x sep : List UInt8) (h : ps ≠ []) : Lib.join (ps ++ [x]) sep = Lib.join ps sep ++ sep ++ x := by
  cases ps with
  | nil => exact absurd rfl h
  | cons y ps => rw [List.cons_append, Lib.join_cons, Lib.join_cons]; simp [Lib.joinTail]
theorem keyQ_first (x : List UInt8) : keyQ [x] = 63 :: x := by simp [keyQ, Lib.join_one]
theorem keyQ_more (ps : List (List UInt8)) (x : List UInt8) (h : ps ≠ []) : keyQ (ps ++ [x]) = keyQ ps ++ 38 :: x := by
  rw [keyQ, if_neg (by simp), keyQ, if_neg h, join_snoc _ _ _ h]; simp
def keyParts (p : List UInt8) : List (List UInt8) := sortS (fullP (cutG 38 [] (p.drop (qAt p + 1))))
def keyT (h p : ByteArray) : List UInt8 := (lowS h).data.toList ++ p.data.toList.take (qAt p.data.toList) ++ keyQ (keyParts p.data.toList)
theorem keyParts_none (p : List UInt8) (h : qAt p = p.length) : keyParts p = [] := by
  rw [keyParts, h, List.drop_of_length_le (by omega)]; rfl
theorem fullP_take_on (l : List (List UInt8)) (k : Nat) (x : List UInt8) (h : l[k]? = some x) (hx : x ≠ []) : fullP (l.take (k + 1)) = fullP (l.take k) ++ [x] := by
  rw [List.take_add_one, h]; exact fullP_snoc _ _ hx
theorem fullP_take_nil (l : List (List UInt8)) (k : Nat) (h : l[k]? = some []) : fullP (l.take (k + 1)) = fullP (l.take k) := by
  rw [List.take_add_one, h]; exact fullP_snoc_nil _
theorem fullP_len (l : List (List UInt8)) : (fullP l).length ≤ l.length := List.length_filter_le _ _
theorem cutG_len (c : UInt8) : ∀ (l cur : List UInt8), (cutG c cur l).length ≤ l.length + 1
  | [], cur => by simp [cutG]
  | x :: l, cur => by
    rw [cutG]
    split
    · have := cutG_len c l []; simp; omega
    · have := cutG_len c l (cur ++ [x]); simp; omega
/-- All bytes of the pieces. -/
def sumL (ps : List (List UInt8)) : Nat := (ps.map List.length).sum
theorem cutG_sum (c : UInt8) : ∀ (l cur : List UInt8), sumL (cutG c cur l) ≤ l.length + cur.length
  | [], cur => by simp [cutG, sumL]
  | x :: l, cur => by
    rw [cutG]
    split
    · have := cutG_sum c l []; simp [sumL] at this ⊢; omega
    · have := cutG_sum c l (cur ++ [x]); simp [sumL] at this ⊢; omega
theorem fullP_sum : ∀ ps : List (List UInt8), sumL (fullP ps) ≤ sumL ps
  | [] => Nat.le_refl _
  | [] :: ps => by have := fullP_sum ps; rw [fullP_cons_nil]; simp [sumL] at this ⊢; omega
  | (x :: p) :: ps => by have := fullP_sum ps; rw [fullP_cons _ _ (by simp)]; simp [sumL] at this ⊢; omega
theorem sortS_sum (ps : List (List UInt8)) : sumL (sortS ps) = sumL ps := ((sortS_perm ps).map List.length).sum_nat
theorem keyParts_len (p : List UInt8) : (keyParts p).length ≤ p.length + 1 := by
  rw [keyParts, sortS_len]
  have h1 := fullP_len (cutG 38 [] (p.drop (qAt p + 1)))
  have h2 := cutG_len 38 (p.drop (qAt p + 1)) []
  rw [List.length_drop] at h2
  omega
theorem keyParts_sum (p : List UInt8) : sumL (keyParts p) ≤ p.length := by
  rw [keyParts, sortS_sum]
  have h1 := fullP_sum (cutG 38 [] (p.drop (qAt p + 1)))
  have h2 := cutG_sum 38 (p.drop (qAt p + 1)) []
  rw [List.length_drop] at h2
  simp only [List.length_nil] at h2
  omega
theorem keyQ_len (ps : List (List UInt8)) : (keyQ ps).length ≤ sumL ps + ps.length := by
  rw [keyQ]
  split
  · simp
  · rename_i h
    cases ps with
    | nil => exact absurd rfl h
    | cons x r =>
      rw [Lib.join_cons]
      have : ∀ r : List (List UInt8), (Lib.joinTail [38] r).length = sumL r + r.length := fun r => by
        induction r with
        | nil => rfl
        | cons y r ih => simp [Lib.joinTail, sumL] at ih ⊢; omega
      simp [this, sumL]; omega
theorem sumL_take (ps : List (List UInt8)) (k : Nat) : sumL (ps.take k) ≤ sumL ps := by
  have e := List.take_append_drop k ps
  have : sumL (ps.take k ++ ps.drop k) = sumL (ps.take k) + sumL (ps.drop k) := by simp only [sumL, List.map_append, List.sum_append_nat]
  rw [e] at this
  omega
theorem keyQ_take_len (ps : List (List UInt8)) (k : Nat) : (keyQ (ps.take k)).length ≤ sumL ps + ps.length := by
  have h1 := keyQ_len (ps.take k)
  have h2 := sumL_take ps k
  have h3 : (ps.take k).length ≤ ps.length := List.length_take_le' _ _
  omega
theorem sumL_get (ps : List (List UInt8)) (k : Nat) (x : List UInt8) (h : ps[k]? = some x) : x.length ≤ sumL ps := by
  have e := List.take_append_drop k ps
  have hk := (List.getElem?_eq_some_iff.1 h).1
  rw [List.drop_eq_getElem_cons hk, (List.getElem?_eq_some_iff.1 h).2] at e
  rw [← e]
  simp [sumL]; omega
theorem hmk_add (a b : List UInt8) : (hmk a ++ hmk b : ByteArray) = hmk (a ++ b) := by
  apply ByteArray.ext
  apply Array.ext'
  rw [happ_list]; simp [hmk]
theorem hmk_of (s : ByteArray) : hmk s.data.toList = s := by cases s; simp [hmk]
/-- append of one text, where another row must stay. -/
theorem wpList_append_str_at {ops : Array Oper} {rest : List Oper} {o : Oper} {a : Act} {Q : Exit → Act → World → Prop} (w : World) (hgd : o.guard = none) (s x : Operand)
    (ho : o.op = .call { callee := .builtin .append, args := #[s, x], argTypes := #[46, 46] }) (base : Nat) (v : Value) (l : List ByteArray) (z : ByteArray)
    (hs : a.eval s = v) (hx : a.eval x = .slice (some ⟨w.heap.size, 0, none⟩) 1 1) (hown : OwnS w base v l) (hl : l.length ≤ 1000000) (hbase : base ≤ w.heap.size)
    (b6 : Nat) (v6 : Value) (l6 : List ByteArray) (h6 : OwnS w b6 v6 l6) (g6 : Nat) (hg6 : v6.ownBlock = some g6) (hne : v.ownBlock ≠ some g6)
    (h : ∀ v' w', OwnS w' base v' (l ++ [z]) → OwnS w' b6 v6 l6 → v'.ownBlock ≠ some g6 → Below base w w' → wpList Tryz.prog ops Q rest (a.put o.dst v') w') :
    wpList Tryz.prog ops Q (o :: rest) a (w.alloc (.cells #[.string z] 9)) := by
  obtain ⟨i0, hi, hz0, hz1, hz2⟩ := info_parts infoStr
  refine wpList_append_own_at _ hgd s x 46 ho base 9 i0 (.string ⟨#[]⟩) 1 16 Tryz.underlying46 hi hz0 hz1 hz2 rfl (by decide) v l.length (textsW l) hs (World.ownsRow.alloc hown _) ⟨w.heap.size, 0, none⟩ 1 1 [.string z] hx rfl ?_ ?_ ?_ ?_ ?_ ?_
  · intro j u hj
    match j, hj with
    | 0, hj => simp at hj; subst hj; simp [Addr.add]
  · intro u hu; simp at hu; subst hu; rfl
  · unfold maxLen; omega
  · omega
  · simp; omega
  · intro v' w' h1 h2 h3 h4
    have e : textsW (l ++ [z]) = textsW l ++ [Value.string z] := by simp [textsW]
    have hlt := (World.ownsRow.lt h6 g6 hg6).2
    refine h v' w' (by unfold OwnS; rw [e, List.length_append]; exact h1) ?_ ?_ ?_
    · exact World.ownsRow.kept (World.ownsRow.alloc h6 _) h2 (.inr (by rw [hg6]; exact fun e => hne e.symm))
    · rcases h4 with h4 | h4
      · rw [h4]; exact hne
      · rw [h4]
        intro e
        simp at e
        omega
    · exact ((Below.refl base w).alloc hbase _).grown h2 (by simp; omega) (fun q hq => own_geS hown q hq)
theorem hmk_eqE {x : List UInt8} (h : x ≠ []) : (hmk x).toList.isEmpty = false := by
  rw [Lib.toList_data]
  cases x with
  | nil => exact absurd rfl h
  | cons y x => rfl
theorem hmk_nilE {x : List UInt8} (h : x = []) : (hmk x).toList.isEmpty = true := by
  subst h; rw [Lib.toList_data]; rfl
theorem kext (p : ByteArray) (k : Nat) : (p.extract k p.size).data.toList = p.data.toList.drop k := by
  rw [hext_mk]
  show (List.take (p.size - k) (List.drop k p.data.toList)).toArray.toList = _
  rw [List.toList_toArray]
  exact List.take_of_length_le (by rw [List.length_drop, hsize_list]; omega)
set_option maxRecDepth 100000 in
set_option maxHeartbeats 8000000 in
theorem l5Key_any (w : World) (B : Nat) (m h p : ByteArray) (hv : Value) (F : Four w B (.string m) (.string h) (.string p) hv) (hh : h.size ≤ 60) (hp : p.size ≤ 100) :
    Calls Tryz.prog 98 #[.pointer (some ⟨B, 0, none⟩)] w fun e w' => e = .returned (.string (hmk (keyT h p))) ∧ Below w.heap.size w w' := by
  have HK : Hid (∀ X, Below w.heap.size w X → X.cell? ⟨B, 1, none⟩ = some (.string h) ∧ X.cell? ⟨B, 2, none⟩ = some (.string p)) := fun X hb => ⟨(F.keep hb).c1, (F.keep hb).c2⟩
  have hqs : qAt p.data.toList ≤ p.size := by have := qAt_le p.data.toList; rw [hsize_list] at this; exact this
  have HQ1 : Hid (∀ (k : Nat) (hk : k < p.size), k ≤ qAt p.data.toList → p[k] = 63 → qAt p.data.toList = k) := fun k hk => qAt_stop p.data.toList k (by rw [hsize_list]; exact hk)
  have HQ2 : Hid (∀ (k : Nat) (hk : k < p.size), k ≤ qAt p.data.toList → ¬ p[k] = 63 → k + 1 ≤ qAt p.data.toList) := fun k hk => qAt_on p.data.toList k (by rw [hsize_list]; exact hk)
  obtain ⟨q, hq⟩ : ∃ q, qAt p.data.toList = q := ⟨_, rfl⟩
  have HQE : Hid (qAt p.data.toList = q) := hq
  rw [hq] at hqs HQ1 HQ2
  clear F hq
  go_enter Tryz.func98, Tryz.ntmps98
  go_wp2_with fail
  go_loopw [3] (fun i wr => ∃ k : Nat, k ≤ q ∧ i = .int .i64 (k : Int) ∧ Below w.heap.size w wr) (fun i _ => q - (intOf i).toNat)
  case atStart => exact ⟨0, Nat.zero_le _, rfl, Below.refl _ _⟩
  case round =>
    obtain ⟨k, hk, rfl, hb⟩ := hrel
    obtain ⟨c1, c2⟩ := HK.out wr hb
    have HB : Hid (Below w.heap.size w wr) := hb
    clear hb
    have hne : k ≠ q ∨ k = q := by omega
    rcases hne with hne | hkq
    · have hks : k < p.size := by omega
      have g1 : decide ((k : Int) < (p.size : Int)) = true := by simp; omega
      have n63 : ¬ p[k] = 63 := fun e => hne (HQ1.out k hks hk e).symm
      have hk1 := HQ2.out k hks hk n63
      have d63 : ((p[k].toNat : Int) == 63) = false := by
        rw [beq_eq_false_iff_ne]; intro e
        exact n63 (UInt8.toNat_inj.1 (by simpa using (by omega : p[k].toNat = 63)))
      clear HQ1 HQ2 n63
      go_wp2_with fail
      go_roundw
      case rel => exact ⟨k + 1, by omega, by go_num, HB.out⟩
      case measure => simp [intOf]; omega
    · subst hkq
      by_cases hks : k < p.size
      · have g1 : decide ((k : Int) < (p.size : Int)) = true := by simp; omega
        have e63 : p[k] = 63 := by
          by_cases e : p[k] = 63
          · exact e
          · have := HQ2.out k hks (Nat.le_refl _) e; omega
        have d63 : ((p[k].toNat : Int) == 63) = true := by rw [e63]; rfl
        clear HQ1 HQ2 e63
        have HLW : Hid (∀ X, Calls Tryz.prog 99 #[.string h] X fun e w' => e = .returned (.string (lowS h)) ∧ Below X.heap.size X w') := fun X => l1Lower_any h X (by omega)
        obtain ⟨o0, ho0⟩ : ∃ o : ByteArray, o = lowS h ++ p.extract 0 k := ⟨_, rfl⟩
        have add0 : ∀ X, (Op.stringOp .add (lowS h) (p.extract 0 k)).run Tryz.prog X = .ok (.string o0) X := fun X => by rw [ho0]; exact run_string_add_sum X _ _ (by rw [lowS_size, ByteArray.size_extract]; omega)
        have HO0 : Hid (o0.data.toList = (lowS h).data.toList ++ p.data.toList.take k ∧ o0.size ≤ 160) := by
          refine ⟨by rw [ho0, happ_list]; simp, ?_⟩
          rw [ho0, ByteArray.size_append, lowS_size, ByteArray.size_extract]; omega
        have B0 : Hid (Below wr.heap.size wr wr.drew) := (Below.refl _ _).drew
        have HKS : Hid (∀ X, Below wr.heap.size wr X → X.cell? ⟨B, 1, none⟩ = some (.string h) ∧ X.cell? ⟨B, 2, none⟩ = some (.string p)) := fun X hb => HK.out X (HB.out.trans (hb.mono HB.out.size))
        clear ho0
        obtain ⟨lw, hlw⟩ : ∃ lw, lw = lowS h := ⟨_, rfl⟩
        have HLWE : Hid (lw = lowS h) := hlw
        rw [← hlw] at HLW add0 HO0
        clear hlw
        go_wp2_with fail
        clear c1 c2
        go_region_held3 (fun X => X.cell? ⟨B, 1, none⟩ = some (.string h) ∧ X.cell? ⟨B, 2, none⟩ = some (.string p))
          (first | exact HKS.out _ BA.out | exact HKS.out _ B0.out)
          (first | (go_at_call 99; refine (HLW.out _).mono ?_; rintro e wa ⟨rfl, hba⟩; have BA : Hid (Below wr.heap.size wr wa) := B0.out.trans (hba.mono B0.out.size); clear hba))
        obtain ⟨c1, c2⟩ := HKS.out _ BA.out
        have HBA : Hid (Below w.heap.size w wa) := HB.out.trans (BA.out.mono HB.out.size)
        have bAl : Below wa.heap.size wa (wa.alloc (.cells #[] 9)) := (Below.refl _ _).alloc (Nat.le_refl _) _
        have c2' : (wa.alloc (.cells #[] 9)).cell? ⟨B, 2, none⟩ = some (.string p) := (HKS.out _ (BA.out.trans (bAl.mono BA.out.size))).2
        have HBL : Hid (Below wa.heap.size wa (wa.alloc (.cells #[] 9))) := bAl
        have ge : ((k : Int) == (p.size : Int)) = false := by simp; omega
        have gk0 : (0 : Int) ≤ (k : Int) + 1 := by omega
        have gk1 : (k : Int) + 1 ≤ p.size := by omega
        obtain ⟨C, hC⟩ : ∃ C, C = cutG 38 [] (p.data.toList.drop (k + 1)) := ⟨_, rfl⟩
        have hCl : C.length ≤ 101 := by
          have := cutG_len 38 (p.data.toList.drop (k + 1)) []
          rw [List.length_drop, hsize_list] at this
          rw [hC]; omega
        have HCN : Hid (C ≠ []) := by rw [hC]; exact cutG_ne _ _ _
        have HCC : Hid (∀ X, Calls Tryz.prog 92 #[.string (p.extract (k + 1) p.size), .int .u8 38] X fun e w' => CutRes C X.heap.size e w' ∧ Below X.heap.size X w') := fun X => by
          have := l1Cut_any (p.extract (k + 1) p.size) 38 X (by rw [ByteArray.size_extract]; omega)
          rw [kext] at this
          rw [hC]
          exact this
        have HKP : Hid (sortS (fullP C) = keyParts p.data.toList) := by show _ = _; rw [hC, keyParts, HQE.out]
        clear hC bAl HKS B0 BA HLW add0 d63 g1
        go_wp2_with fail
        refine (HCC.out _).mono ?_
        rintro e w2 ⟨⟨v6, rfl, ho6⟩, hb2⟩
        obtain ⟨g6, c6, rfl⟩ := ho6.isS (fun e => HCN.out (by simpa using e))
        rw [List.length_map] at ho6 ⊢
        have HP0 : Hid (OwnS w2 wa.heap.size (.slice (some ⟨wa.heap.size, 0, none⟩) 0 0) []) := (ownS_made0 wa wa.heap.size (Nat.le_refl _)).below hb2
        have HA0 : Hid (OwnS w2 (wa.heap.size + 1) (.slice (some ⟨g6, 0, none⟩) C.length c6) (C.map hmk)) := ho6.lower (by simp)
        have HB2 : Hid (Below w.heap.size w w2) := HBA.out.trans ((HBL.out.trans (hb2.mono HBL.out.size)).mono HBA.out.size)
        have hg6 : wa.heap.size + 1 ≤ g6 := (World.ownsRow.lt ho6 g6 rfl).1 |> fun h => by simpa using h
        have hsz : w.heap.size ≤ wa.heap.size := HBA.out.size
        clear ho6 hb2 HBL c1 c2 c2' HCC HCN HBA
        go_wp2_with fail
        go_loopw [5, 7] (fun v i wr => ∃ (k : Nat), k ≤ C.length ∧ i = .int .i64 (k : Int) ∧ OwnS wr wa.heap.size v ((fullP (C.take k)).map hmk) ∧ v.ownBlock ≠ some g6 ∧ OwnS wr (wa.heap.size + 1) (.slice (some ⟨g6, 0, none⟩) C.length c6) (C.map hmk) ∧ Below w.heap.size w wr) (fun _ i _ => C.length - (intOf i).toNat)
        case atStart => exact ⟨0, Nat.zero_le _, rfl, HP0.out, by simp [Value.ownBlock]; omega, HA0.out, HB2.out⟩
        case round =>
          obtain ⟨j, hj, rfl, hp, hpn, ha, hb⟩ := hrel
          have HP : Hid (OwnS wr wa.heap.size u5 ((fullP (C.take j)).map hmk)) := hp
          have HPN : Hid (u5.ownBlock ≠ some g6) := hpn
          have HA : Hid (OwnS wr (wa.heap.size + 1) (.slice (some ⟨g6, 0, none⟩) C.length c6) (C.map hmk)) := ha
          have HBR : Hid (Below w.heap.size w wr) := hb
          clear hp hpn ha hb
          by_cases hlt : j < C.length
          · obtain ⟨x, hx⟩ : ∃ x, C[j]? = some x := ⟨C[j], List.getElem?_eq_getElem hlt⟩
            have hcx : wr.cell? ⟨g6, j, none⟩ = some (.string (hmk x)) := HA.out.cellAt j (hmk x) (by rw [List.getElem?_map, hx]; rfl)
            have gj : (j : Int) < C.length := by omega
            by_cases hx0 : x = []
            · have HF : Hid (fullP (C.take (j + 1)) = fullP (C.take j)) := fullP_take_nil C j (by rw [hx, hx0])
              have dE := hmk_nilE hx0
              clear hx hx0
              go_wp2_with fail
              go_roundw
              case rel => exact ⟨j + 1, by omega, by go_num, by rw [HF.out]; exact HP.out, HPN.out, HA.out, HBR.out⟩
              case measure => simp [intOf]; omega
            · have HF : Hid (fullP (C.take (j + 1)) = fullP (C.take j) ++ [x]) := fullP_take_on C j x hx hx0
              have dE := hmk_eqE hx0
              have hfl : ((fullP (C.take j)).map hmk).length ≤ 1000 := by
                rw [List.length_map]
                have h1 := fullP_len (C.take j)
                rw [List.length_take] at h1
                omega
              have hzz : wa.heap.size ≤ wr.heap.size := by have := (World.ownsRow.lt HA.out g6 rfl).2; omega
              clear hx hx0
              go_wp2_with (at_builtin; refine wpList_append_str_at _ rfl (.tmp 67) (.tmp 72) rfl wa.heap.size _ _ (hmk x) rfl rfl HP.out (by omega) hzz _ _ _ HA.out g6 rfl HPN.out ?_; intro v4 w4 HO4 HA4 HN4 hb4)
              go_roundw
              case rel => exact ⟨j + 1, by omega, by go_num, by rw [HF.out, List.map_append]; exact HO4, HN4, HA4, HBR.out.trans (hb4.mono hsz)⟩
              case measure => simp [intOf]; omega
          · have ej : j = C.length := by omega
            subst ej
            have HS : Hid (∀ v, OwnS wr wa.heap.size v ((fullP (C.take C.length)).map hmk) → Calls Tryz.prog 131 #[v] wr fun e w' => CutRes (keyParts p.data.toList) wr.heap.size e w' ∧ Below wr.heap.size wr w') := fun v hv => by
              rw [List.take_length] at hv
              have := l5Sort_any (fullP C) v _ wr (by have := fullP_len C; omega) hv
              rw [HKP.out] at this
              exact this
            clear HA HPN
            go_wp2_with fail
            refine (HS.out _ HP.out).mono ?_
            rintro e w5 ⟨⟨v5, rfl, ho5⟩, hb5⟩
            obtain ⟨a5, c5, rfl, hc5⟩ := ho5.shape
            obtain ⟨S, hS⟩ : ∃ S, S = keyParts p.data.toList := ⟨_, rfl⟩
            rw [← hS] at hc5 ⊢
            rw [List.length_map]
            have hSl : S.length ≤ 101 := by rw [hS]; have := keyParts_len p.data.toList; rw [hsize_list] at this; omega
            have hSs : sumL S ≤ 100 := by rw [hS]; have := keyParts_sum p.data.toList; rw [hsize_list] at this; omega
            have HS5 : Hid (S = keyParts p.data.toList) := hS
            have HC5 : Hid (∀ (i : Nat) x, S[i]? = some x → ∃ g, a5 = some ⟨g, 0, none⟩ ∧ w5.cell? ⟨g, i, none⟩ = some (.string (hmk x))) := fun i x hx => hc5 i (hmk x) (by rw [List.getElem?_map, hx]; rfl)
            have HB5 : Hid (Below w.heap.size w w5) := HBR.out.trans (hb5.mono HBR.out.size)
            clear ho5 hc5 hS hb5 HS HP HBR HP0 HA0 HB2 HKP
            go_wp2_with fail
            go_loopw [4, 8] (fun v i wr => ∃ (k : Nat) (o : ByteArray), k ≤ S.length ∧ i = .int .i64 (k : Int) ∧ v = .string o ∧ o.data.toList = o0.data.toList ++ keyQ (S.take k) ∧ Below w5.heap.size w5 wr) (fun _ i _ => S.length - (intOf i).toNat)
            case atStart => exact ⟨0, o0, Nat.zero_le _, rfl, rfl, by simp [keyQ_nil], Below.refl _ _⟩
            case round =>
              obtain ⟨j, o, hj, rfl, rfl, ho, hb⟩ := hrel
              have hos : o.size ≤ 600 := by
                have h1 := congrArg List.length ho
                have h2 := keyQ_take_len S j
                have h3 := HO0.out.2
                rw [List.length_append, hsize_list, hsize_list] at h1
                omega
              have HO : Hid (o.data.toList = o0.data.toList ++ keyQ (S.take j)) := ho
              have HBR : Hid (Below w5.heap.size w5 wr) := hb
              clear ho hb
              by_cases hlt : j < S.length
              · obtain ⟨x, hx⟩ : ∃ x, S[j]? = some x := ⟨S[j], List.getElem?_eq_getElem hlt⟩
                obtain ⟨g, rfl, hcx0⟩ := HC5.out j x hx
                have hcx : wr.cell? ⟨g, j, none⟩ = some (.string (hmk x)) := by rw [HBR.out.cell (p := ⟨g, j, none⟩) (block_lt_of_cell hcx0)]; exact hcx0
                have hxs : (hmk x).size ≤ 100 := by have := sumL_get S j x hx; rw [hmk_size]; omega
                have gj : (j : Int) < S.length := by omega
                have HT : Hid (S.take (j + 1) = S.take j ++ [x]) := by show _ = _; rw [List.take_add_one, hx]; rfl
                have HXL : Hid ((hmk x).data.toList = x) := by show _ = _; simp [hmk]
                clear hcx0 HC5 hx
                by_cases hj0 : j = 0
                · subst hj0
                  have HE : Hid ((o ++ ⟨#[63]⟩ ++ hmk x : ByteArray).data.toList = o0.data.toList ++ keyQ (S.take (0 + 1))) := by
                    show _ = _
                    rw [happ_list, happ_list, HO.out, HXL.out, HT.out]
                    simp [keyQ_first, keyQ_nil]
                  go_wp2_with fail
                  go_roundw
                  case rel => exact ⟨0 + 1, _, by omega, by go_num, rfl, HE.out, HBR.out⟩
                  case measure => simp [intOf]; omega
                · have dj : ((j : Int) == 0) = false := by simp; omega
                  have HE : Hid ((o ++ ⟨#[38]⟩ ++ hmk x : ByteArray).data.toList = o0.data.toList ++ keyQ (S.take (j + 1))) := by
                    show _ = _
                    rw [happ_list, happ_list, HO.out, HXL.out, HT.out, keyQ_more _ _ (fun e => by have := congrArg List.length e; rw [List.length_take, List.length_nil] at this; omega)]
                    simp
                  go_wp2_with fail
                  go_roundw
                  case rel => exact ⟨j + 1, _, by omega, by go_num, rfl, HE.out, HBR.out⟩
                  case measure => simp [intOf]; omega
              · have ej : j = S.length := by omega
                subst ej
                have HR : Hid (o = hmk (keyT h p)) := by
                  show _ = _
                  refine hof_list ?_
                  rw [HO.out, HO0.out.1, List.take_length, HS5.out, keyT, HQE.out, HLWE.out]
                clear HC5
                go_wp2_with fail
                go_ret
                exact ⟨congrArg (fun s => Ending.returned (.string s)) HR.out, HB5.out.trans (HBR.out.mono HB5.out.size)⟩
      · have g1 : decide ((k : Int) < (p.size : Int)) = false := by simp; omega
        clear HQ1 HQ2
        have HLW : Hid (∀ X, Calls Tryz.prog 99 #[.string h] X fun e w' => e = .returned (.string (lowS h)) ∧ Below X.heap.size X w') := fun X => l1Lower_any h X (by omega)
        obtain ⟨o0, ho0⟩ : ∃ o : ByteArray, o = lowS h ++ p.extract 0 k := ⟨_, rfl⟩
        have add0 : ∀ X, (Op.stringOp .add (lowS h) (p.extract 0 k)).run Tryz.prog X = .ok (.string o0) X := fun X => by rw [ho0]; exact run_string_add_sum X _ _ (by rw [lowS_size, ByteArray.size_extract]; omega)
        have HO0 : Hid (o0.data.toList = (lowS h).data.toList ++ p.data.toList.take k ∧ o0.size ≤ 160) := by
          refine ⟨by rw [ho0, happ_list]; simp, ?_⟩
          rw [ho0, ByteArray.size_append, lowS_size, ByteArray.size_extract]; omega
        have B0 : Hid (Below wr.heap.size wr wr.drew) := (Below.refl _ _).drew
        have HKS : Hid (∀ X, Below wr.heap.size wr X → X.cell? ⟨B, 1, none⟩ = some (.string h) ∧ X.cell? ⟨B, 2, none⟩ = some (.string p)) := fun X hb => HK.out X (HB.out.trans (hb.mono HB.out.size))
        clear ho0
        obtain ⟨lw, hlw⟩ : ∃ lw, lw = lowS h := ⟨_, rfl⟩
        have HLWE : Hid (lw = lowS h) := hlw
        rw [← hlw] at HLW add0 HO0
        clear hlw
        go_wp2_with fail
        clear c1 c2
        go_region_held3 (fun X => X.cell? ⟨B, 1, none⟩ = some (.string h) ∧ X.cell? ⟨B, 2, none⟩ = some (.string p))
          (first | exact HKS.out _ BA.out | exact HKS.out _ B0.out)
          (first | (go_at_call 99; refine (HLW.out _).mono ?_; rintro e wa ⟨rfl, hba⟩; have BA : Hid (Below wr.heap.size wr wa) := B0.out.trans (hba.mono B0.out.size); clear hba))
        obtain ⟨c1, c2⟩ := HKS.out _ BA.out
        have HBA : Hid (Below w.heap.size w wa) := HB.out.trans (BA.out.mono HB.out.size)
        have ge : ((k : Int) == (p.size : Int)) = true := by simp; omega
        have HR : Hid (o0 = hmk (keyT h p)) := by
          show _ = _
          refine hof_list ?_
          rw [HO0.out.1, keyT, HQE.out, keyParts_none p.data.toList (by rw [HQE.out, hsize_list]; omega), keyQ_nil, List.append_nil, HLWE.out]
        clear HKS B0 BA HLW add0 g1
        go_wp2_with fail
        go_ret
        exact ⟨congrArg (fun s => Ending.returned (.string s)) HR.out, HBA.out⟩
end Go.Proofs.YtonnggelpjjmmaaGreatDoor
/-
  What the model's ReadRequest answers.
-/
namespace Go.Proofs.YtonnggelpjjmmaaGreatDoor
open Go.ChangeShapes Go.WideShapes Go.ChangeAt Go.RowKit Go.Sort
structure Five (W : World) (B : Nat) (v0 v1 v2 v3 v4 : Value) : Prop where
  c0 : W.cell? ⟨B, 0, none⟩ = some v0
  c1 : W.cell? ⟨B, 1, none⟩ = some v1
  c2 : W.cell? ⟨B, 2, none⟩ = some v2
  c3 : W.cell? ⟨B, 3, none⟩ = some v3
  c4 : W.cell? ⟨B, 4, none⟩ = some v4
  fr : ∀ o, W.frozen? ⟨B, o, none⟩ = false
  lt : B < W.heap.size
theorem Five.keep {W W' : World} {B : Nat} {v0 v1 v2 v3 v4 : Value} (h : Five W B v0 v1 v2 v3 v4) (hb : Below W.heap.size W W') : Five W' B v0 v1 v2 v3 v4 :=
  ⟨by rw [hb.cell (p := ⟨B, 0, none⟩) h.lt]; exact h.c0, by rw [hb.cell (p := ⟨B, 1, none⟩) h.lt]; exact h.c1, by rw [hb.cell (p := ⟨B, 2, none⟩) h.lt]; exact h.c2, by rw [hb.cell (p := ⟨B, 3, none⟩) h.lt]; exact h.c3, by rw [hb.cell (p := ⟨B, 4, none⟩) h.lt]; exact h.c4,
    fun o => by rw [hb.frozen (p := ⟨B, o, none⟩) h.lt]; exact h.fr o, Nat.lt_of_lt_of_le h.lt hb.size⟩
theorem Five.new (W : World) (v0 v1 v2 v3 v4 : Value) (t : TypeId) : Five (W.alloc (.cells #[v0, v1, v2, v3, v4] t)) W.heap.size v0 v1 v2 v3 v4 :=
  ⟨by rw [World.cell?_alloc_mark]; rfl, by rw [World.cell?_alloc_mark]; rfl, by rw [World.cell?_alloc_mark]; rfl, by rw [World.cell?_alloc_mark]; rfl, by rw [World.cell?_alloc_mark]; rfl, fun o => by have e := heap_alloc_new W (.cells #[v0, v1, v2, v3, v4] t); unfold World.frozen?; rw [e]; simp, by simp⟩
def put5 (w : World) (B : Nat) (v0 v1 v2 v3 v4 : Value) : World := ((((w.setCell ⟨B, 0, none⟩ v0).setCell ⟨B, 1, none⟩ v1).setCell ⟨B, 2, none⟩ v2).setCell ⟨B, 3, none⟩ v3).setCell ⟨B, 4, none⟩ v4
theorem off_ne {B i j : Nat} (h : i ≠ j) : (⟨B, i, none⟩ : Addr) ≠ ⟨B, j, none⟩ := fun e => h (congrArg Addr.off e)
theorem five_put {w : World} {B : Nat} {u0 u1 u2 u3 u4 v0 v1 v2 v3 v4 : Value} (h : Five w B u0 u1 u2 u3 u4) : Five (put5 w B v0 v1 v2 v3 v4) B v0 v1 v2 v3 v4 := by
  have o : ∀ (X : World) (i j : Nat) (v : Value), i ≠ j → (X.setCell ⟨B, i, none⟩ v).cell? ⟨B, j, none⟩ = X.cell? ⟨B, j, none⟩ := fun X i j v hij => World.cell?_setCell_other _ _ _ _ (off_ne hij)
  unfold put5
  refine ⟨?_, ?_, ?_, ?_, ?_, fun o => by simp only [World.frozen?_setCell]; exact h.fr o, by simpa using h.lt⟩
  · rw [o _ _ _ _ (by omega), o _ _ _ _ (by omega), o _ _ _ _ (by omega), o _ _ _ _ (by omega)]; exact World.cell?_setCell_same _ _ _ h.c0
  · rw [o _ _ _ _ (by omega), o _ _ _ _ (by omega), o _ _ _ _ (by omega)]; exact World.cell?_setCell_same _ _ _ (by rw [o _ _ _ _ (by omega)]; exact h.c1)
  · rw [o _ _ _ _ (by omega), o _ _ _ _ (by omega)]; exact World.cell?_setCell_same _ _ _ (by rw [o _ _ _ _ (by omega), o _ _ _ _ (by omega)]; exact h.c2)
  · rw [o _ _ _ _ (by omega)]; exact World.cell?_setCell_same _ _ _ (by rw [o _ _ _ _ (by omega), o _ _ _ _ (by omega), o _ _ _ _ (by omega)]; exact h.c3)
  · exact World.cell?_setCell_same _ _ _ (by rw [o _ _ _ _ (by omega), o _ _ _ _ (by omega), o _ _ _ _ (by omega), o _ _ _ _ (by omega)]; exact h.c4)
theorem Below.put5 {w w' : World} {base B : Nat} {v0 v1 v2 v3 v4 : Value} (h : Below base w w') (hB : base ≤ B) : Below base w (put5 w' B v0 v1 v2 v3 v4) :=
  ((((h.setCell hB _).setCell hB _).setCell hB _).setCell hB _).setCell hB _
theorem ownH_put5 {w : World} {base B : Nat} {v : Value} {l : List Hdr} {v0 v1 v2 v3 v4 : Value} (h : OwnH w base v l) (hB : B < base) : OwnH (put5 w B v0 v1 v2 v3 v4) base v l :=
  ownH_set (ownH_set (ownH_set (ownH_set (ownH_set h hB) hB) hB) hB) hB
/-- What a call hands back: a code and a request of its own. -/
def QGot (c : Int) (q : Rq) (base : Nat) (e : Ending) (w : World) : Prop := ∃ v, e = .returned (.agg #[.int .i64 c, .string q.m, .string q.h, .string q.p, v]) ∧ OwnH w base v q.l
theorem QGot.zero (c : Int) (base : Nat) (w : World) : QGot c rq0 base (.returned (.agg #[.int .i64 c, .string ⟨#[]⟩, .string ⟨#[]⟩, .string ⟨#[]⟩, .slice none 0 0])) w := ⟨_, rfl, OwnH.nil _ _⟩
def WordsRes (ws : List (List UInt8)) (base : Nat) (e : Ending) (w : World) : Prop := ∃ v, e = .returned (.tuple #[v, .bool ((ws.length : Int) == 3)]) ∧ OwnS w base v (ws.map hmk)
set_option maxRecDepth 100000 in
set_option maxHeartbeats 2000000 in
theorem l5Words_any (s : ByteArray) (w : World) (hs : s.size ≤ 10100) :
    Calls Tryz.prog 55 #[.string s] w fun e w' => WordsRes (cutG 32 [] s.data.toList) w.heap.size e w' ∧ Below w.heap.size w w' := by
  have C := l1CutW_any s 32 w hs
  have hl := cutG_len 32 s.data.toList []
  rw [hsize_list] at hl
  generalize cutG 32 [] s.data.toList = ws at *
  go_enter Tryz.func55, Tryz.ntmps55
  go_wp2_with fail
  refine C.mono ?_
  rintro e w1 ⟨⟨v, rfl, ho⟩, hb⟩
  obtain ⟨a, c, rfl, _⟩ := ho.shape
  rw [List.length_map] at ho ⊢
  have HO : Hid (OwnS w1 w.heap.size (.slice a ws.length c) (ws.map hmk)) := ho
  have HB : Hid (Below w.heap.size w w1) := hb
  clear ho hb C
  go_wp2_with fail
  go_ret2
  exact ⟨⟨_, rfl, HO.out⟩, HB.out⟩
theorem words_host {H : List Hdr} (h : hostOk H = true) : valsOf hostN H ≠ [] ∧ (dropH hostN H).length + 1 = H.length := by
  have h1 : (valsOf hostN H).length = 1 := by simpa [hostOk] using h
  have h2 := vals_drop_len hostN H
  exact ⟨fun e => by rw [e] at h1; simp at h1, by omega⟩
theorem words_host_not {H : List Hdr} (h : hostOk H = false) : (dropH hostN H).length + 1 ≠ H.length := by
  have h1 : (valsOf hostN H).length ≠ 1 := by simpa [hostOk] using h
  have h2 := vals_drop_len hostN H
  omega
theorem hostOk_none {H : List Hdr} (h : valsOf hostN H = []) : hostOk H = false := by simp [hostOk, h]
theorem wordsOk_len {ws : List (List UInt8)} (h : ¬ ws.length = 3) : wordsOk ws = false := by simp [wordsOk, h]
theorem wordsOk_at {ws : List (List UInt8)} (h : ws.length = 3) : ∃ x y z, ws = [x, y, z] ∧ (wordsOk ws = decide (z = verL)) := by
  match ws, h with
  | [x, y, z], _ => exact ⟨x, y, z, rfl, by simp [wordsOk]⟩
end Go.Proofs.YtonnggelpjjmmaaGreatDoor
/-
  What the model's ReadRequest answers.
-/
namespace Go.Proofs.YtonnggelpjjmmaaGreatDoor
open Go.ChangeShapes Go.WideShapes Go.ChangeAt Go.RowKit
theorem int_ne_beq {a b : Int} (h : a ≠ b) : (a == b) = false := by rw [beq_eq_false_iff_ne]; exact h
theorem firstO_len {l a b : List UInt8} (h : firstO l = some (a, b)) : a.length ≤ l.length ∧ b.length ≤ l.length := by
  unfold firstO at h
  split at h
  · simp only [Option.some.injEq, Prod.mk.injEq] at h
    obtain ⟨rfl, rfl⟩ := h
    exact ⟨by rw [List.length_take]; omega, by rw [List.length_take, List.length_drop]; omega⟩
  · cases h
theorem read_okH {s : ByteArray} (h : readHC s = 0) : headsC (readHL s) = 0 := by
  unfold readHC readHL at *
  split at h
  · omega
  · rename_i hs
    rw [if_neg hs]
    split at h
    · omega
    · rename_i L hL
      rw [if_pos h]; exact h
theorem own_in {w : World} {base : Nat} {a : Option Addr} {n c : Nat} {L : List Hdr} (h : OwnH w base (.slice a n c) L) : n = L.length ∧ HdsIn w a L := by
  obtain ⟨a', c', e, hx⟩ := h.at
  simp only [Value.slice.injEq] at e
  obtain ⟨rfl, rfl, _⟩ := e
  exact ⟨rfl, hx⟩
set_option maxRecDepth 100000 in
set_option maxHeartbeats 16000000 in
theorem specReadQ_any (w : World) (a : Option Addr) (cap : Nat) (d : List UInt8) (hd : d.length ≤ 1048576) (hi : BIn w a d) :
    Calls Tryz.prog 22 #[.slice a d.length cap] w fun e w' => QGot (readQ d).1 (readQ d).2 w.heap.size e w' ∧ Below w.heap.size w w' := by
  obtain ⟨W, hW⟩ : ∃ W, W = w.alloc (.cells #[.int .i64 0, .string ⟨#[]⟩, .string ⟨#[]⟩, .string ⟨#[]⟩, .slice none 0 0] 38) := ⟨_, rfl⟩
  have HW : Hid (W = w.alloc (.cells #[.int .i64 0, .string ⟨#[]⟩, .string ⟨#[]⟩, .string ⟨#[]⟩, .slice none 0 0] 38)) := hW
  have bW : Below w.heap.size w W := by rw [hW]; exact (Below.refl _ _).alloc (Nat.le_refl _) _
  have f0 : Five W w.heap.size (.int .i64 0) (.string ⟨#[]⟩) (.string ⟨#[]⟩) (.string ⟨#[]⟩) (.slice none 0 0) := by rw [hW]; exact Five.new _ _ _ _ _ _ _
  have hcv : (convert 22 9 (.slice a d.length cap)).run Tryz.prog W = .ok (.string (hmk d)) W := bytes_text cap (hi.keep bW)
  have K0 : Hid (Below w.heap.size w W ∧ Five W w.heap.size (.int .i64 0) (.string ⟨#[]⟩) (.string ⟨#[]⟩) (.string ⟨#[]⟩) (.slice none 0 0)) := ⟨bW, f0⟩
  obtain ⟨R, hR⟩ : ∃ R, R = readQ d := ⟨_, rfl⟩
  have HRR : Hid (R = readQ d) := hR
  rw [← hR]
  clear hR bW f0 hi
  rw [hW] at hcv
  clear hW
  by_cases h8 : 8000 < d.length
  · have HE : Hid (R = (2, rq0)) := by show _ = _; rw [HRR.out]; exact readQ_long h8
    have g8 : (8000 : Int) < d.length := by omega
    clear hcv K0 HRR
    generalize d.length = n at *
    go_enter Tryz.func22, Tryz.ntmps22
    go_wp2_with fail
    exact bodyPost_ret (v := .agg #[.int .i64 2, .string ⟨#[]⟩, .string ⟨#[]⟩, .string ⟨#[]⟩, .slice none 0 0]) (by simp [results, Tryz.results22, go_sem]) rfl ⟨by rw [HE.out]; exact QGot.zero _ _ _, (Below.refl _ _).alloc (Nat.le_refl _) _⟩
  · have g8 : ¬ (8000 : Int) < d.length := by omega
    have hz8 : (hmk d).size ≤ 10100 := by rw [hmk_size]; omega
    cases hf : firstO d with
    | none =>
      have HE : Hid (R = (5, rq0)) := by show _ = _; rw [HRR.out]; exact readQ_none h8 hf
      have C := l5First_any (hmk d) W hz8
      rw [hmk_list, firstV_none hf] at C
      clear HRR hf hz8
      generalize hmk d = t at *
      generalize d.length = n at *
      go_enter Tryz.func22, Tryz.ntmps22
      go_wp2_with fail
      rw [← HW.out]
      refine C.mono ?_
      rintro e w1 ⟨rfl, hb1⟩
      have K1 : Hid (Below w.heap.size w w1 ∧ Five w1 w.heap.size (.int .i64 0) (.string ⟨#[]⟩) (.string ⟨#[]⟩) (.string ⟨#[]⟩) (.slice none 0 0)) := ⟨K0.out.1.trans (hb1.mono K0.out.1.size), K0.out.2.keep hb1⟩
      clear C hb1 K0 hcv
      obtain ⟨r0, r1, r2, r3, r4, rf, _⟩ := K1.out.2
      have rf0 := rf 0
      have rf1 := rf 1
      have rf2 := rf 2
      have rf3 := rf 3
      have rf4 := rf 4
      clear rf
      go_wp2_with fail
      have T2 := five_put (v0 := .int .i64 5) (v1 := .string ⟨#[]⟩) (v2 := .string ⟨#[]⟩) (v3 := .string ⟨#[]⟩) (v4 := .slice none 0 0) K1.out.2
      unfold put5 at T2
      exact bodyPost_ret (v := .agg #[.int .i64 5, .string ⟨#[]⟩, .string ⟨#[]⟩, .string ⟨#[]⟩, .slice none 0 0]) (by simp [results, Tryz.results22, go_sem, T2.c0, T2.c1, T2.c2, T2.c3, T2.c4]) rfl ⟨by rw [HE.out]; exact QGot.zero _ _ _, Below.put5 K1.out.1 (Nat.le_refl _)⟩
    | some x =>
      obtain ⟨ln, rest⟩ := x
      have C := l5First_any (hmk d) W hz8
      rw [hmk_list, firstV_some hf] at C
      have HF : Hid (firstO d = some (ln, rest)) := hf
      have H8 : Hid (¬ 8000 < d.length) := h8
      have hll : ln.length ≤ 8000 := by have := (firstO_len hf).1; omega
      clear hf hz8
      generalize hmk d = t at *
      obtain ⟨n, hn⟩ : ∃ n, d.length = n := ⟨_, rfl⟩
      rw [hn] at hcv g8 hd ⊢
      clear hn h8
      go_enter Tryz.func22, Tryz.ntmps22
      go_wp2_with fail
      rw [← HW.out]
      refine C.mono ?_
      rintro e w1 ⟨rfl, hb1⟩
      have K1 : Hid (Below w.heap.size w w1 ∧ Five w1 w.heap.size (.int .i64 0) (.string ⟨#[]⟩) (.string ⟨#[]⟩) (.string ⟨#[]⟩) (.slice none 0 0)) := ⟨K0.out.1.trans (hb1.mono K0.out.1.size), K0.out.2.keep hb1⟩
      have C2 := specRead_any (hmk rest) w1
      clear C hb1 K0 hcv HW
      go_wp2_with fail
      refine C2.mono ?_
      rintro e w2 ⟨⟨v, rfl, ho⟩, hb2⟩
      obtain ⟨a6, c6, rfl, hi6⟩ := ho.at
      obtain ⟨H, hH⟩ : ∃ H, readHL (hmk rest) = H := ⟨_, rfl⟩
      obtain ⟨hc, hhc⟩ : ∃ hc, readHC (hmk rest) = hc := ⟨_, rfl⟩
      have HHC : Hid (readHC (hmk rest) = hc ∧ readHL (hmk rest) = H) := ⟨hhc, hH⟩
      rw [hH] at ho hi6 ⊢
      rw [hhc] at ⊢
      obtain ⟨V2, hV2⟩ : ∃ V, V = w2.alloc (.cells #[.int .i64 hc, .slice a6 H.length c6] 84) := ⟨_, rfl⟩
      have HV2 : Hid (V2 = w2.alloc (.cells #[.int .i64 hc, .slice a6 H.length c6] 84)) := hV2
      have aV : Below w2.heap.size w2 V2 := by rw [hV2]; exact (Below.refl _ _).alloc (Nat.le_refl _) _
      have tV : Two V2 w2.heap.size (.int .i64 hc) (.slice a6 H.length c6) := by rw [hV2]; exact Two.new _ _ _ _
      have b2 := K1.out.1.trans (hb2.mono K1.out.1.size)
      have K2 : Hid (Below w.heap.size w V2 ∧ Five V2 w.heap.size (.int .i64 0) (.string ⟨#[]⟩) (.string ⟨#[]⟩) (.string ⟨#[]⟩) (.slice none 0 0) ∧ Two V2 w2.heap.size (.int .i64 hc) (.slice a6 H.length c6) ∧ HdsIn V2 a6 H) := ⟨b2.trans (aV.mono b2.size), (K1.out.2.keep hb2).keep aV, tV, hi6.keep aV⟩
      clear C2 hb2 K1 ho hi6 aV tV b2 hV2 hH hhc
      obtain ⟨r0, r1, r2, r3, r4, rf, _⟩ := K2.out.2.1
      have rf0 := rf 0
      have rf1 := rf 1
      have rf2 := rf 2
      have rf3 := rf 3
      have rf4 := rf 4
      clear rf
      obtain ⟨t0, t1, _, _⟩ := K2.out.2.2.1
      rw [HV2.out] at r0 r1 r2 r3 r4 rf0 rf1 rf2 rf3 rf4 t0 t1
      by_cases h0 : hc = 0
      · subst h0
        have HH0 : Hid (headsC H = 0) := by
          have := read_okH HHC.out.1
          rw [HHC.out.2] at this
          exact this
        obtain ⟨h20, hsz⟩ := heads_sizes HH0.out
        have HSZ : Hid (∀ (i : Nat) r, H[i]? = some r → r.name.size ≤ 64 ∧ r.value.size ≤ 200) := hsz
        have C3 := l5Words_any (hmk ln) V2 (by rw [hmk_size]; omega)
        rw [hmk_list] at C3
        have hcl := cutG_len 32 ln []
        obtain ⟨ws, hws⟩ : ∃ ws, cutG 32 [] ln = ws := ⟨_, rfl⟩
        have HWS : Hid (cutG 32 [] ln = ws) := hws
        rw [hws] at C3 hcl
        clear hws hsz
        go_wp2_with fail
        rw [← HV2.out]
        refine C3.mono ?_
        rintro e w3 ⟨⟨v7, rfl, ho7⟩, hb3⟩
        obtain ⟨a7, c7, rfl, _⟩ := ho7.shape
        rw [List.length_map] at ho7 ⊢
        have K3 : Hid (Below w.heap.size w w3 ∧ Five w3 w.heap.size (.int .i64 0) (.string ⟨#[]⟩) (.string ⟨#[]⟩) (.string ⟨#[]⟩) (.slice none 0 0) ∧ Two w3 w2.heap.size (.int .i64 0) (.slice a6 H.length c6) ∧ HdsIn w3 a6 H ∧ OwnS w3 0 (.slice a7 ws.length c7) (ws.map hmk)) := ⟨K2.out.1.trans (hb3.mono K2.out.1.size), K2.out.2.1.keep hb3, K2.out.2.2.1.keep hb3, K2.out.2.2.2.keep hb3, ho7.lower (Nat.zero_le _)⟩
        clear C3 hb3 K2 ho7 HV2 r0 r1 r2 r3 r4 rf0 rf1 rf2 rf3 rf4 t0 t1
        try clear V2
        generalize w2.heap.size = B6 at *
        try clear w2
        have C4 : Calls Tryz.prog 56 #[.slice a6 H.length c6, .string ⟨#[104, 111, 115, 116]⟩] w3 fun e w' => KeptRes w3.heap.size (dropH hostN H) e w' ∧ Below w3.heap.size w3 w' := by
          have := l4Drop_any w3 a6 c6 H hostN h20 (fun i r hr => (HSZ.out i r hr).1) (by decide) K3.out.2.2.2.1
          rw [hostN_low] at this
          exact this
        obtain ⟨t0, t1, _, _⟩ := K3.out.2.2.1
        go_wp2_with fail
        refine C4.mono ?_
        rintro e w4 ⟨⟨v8, rfl, ho8⟩, hb4⟩
        obtain ⟨a8, c8, rfl, _⟩ := ho8.at
        have K4 : Hid (Below w.heap.size w w4 ∧ Five w4 w.heap.size (.int .i64 0) (.string ⟨#[]⟩) (.string ⟨#[]⟩) (.string ⟨#[]⟩) (.slice none 0 0) ∧ Two w4 B6 (.int .i64 0) (.slice a6 H.length c6) ∧ HdsIn w4 a6 H ∧ OwnS w4 0 (.slice a7 ws.length c7) (ws.map hmk) ∧ OwnH w4 w3.heap.size (.slice a8 (dropH hostN H).length c8) (dropH hostN H) ∧ w.heap.size < w3.heap.size) := ⟨K3.out.1.trans (hb4.mono K3.out.1.size), K3.out.2.1.keep hb4, K3.out.2.2.1.keep hb4, K3.out.2.2.2.1.keep hb4, K3.out.2.2.2.2.below hb4, ho8, K3.out.2.1.lt⟩
        clear C4 hb4 K3 ho8 t0 t1
        generalize w3.heap.size = B8 at *
        try clear w3
        have C5 : Calls Tryz.prog 37 #[.slice a6 H.length c6, .string ⟨#[104, 111, 115, 116]⟩] w4 fun e w' => e = .returned (.tuple #[.string (hmk (hjoinL (valsOf hostN H))), .bool (anyV (valsOf hostN H))]) ∧ Below w4.heap.size w4 w' := by
          have := l4Join_any w4 a6 c6 H hostN h20 HSZ.out (by decide) K4.out.2.2.2.1
          rw [hostN_low] at this
          exact this
        obtain ⟨t0, t1, _, _⟩ := K4.out.2.2.1
        go_wp2_with fail
        refine C5.mono ?_
        rintro e w5 ⟨rfl, hb5⟩
        have K5 : Hid (Below w.heap.size w w5 ∧ Five w5 w.heap.size (.int .i64 0) (.string ⟨#[]⟩) (.string ⟨#[]⟩) (.string ⟨#[]⟩) (.slice none 0 0) ∧ Two w5 B6 (.int .i64 0) (.slice a6 H.length c6) ∧ OwnS w5 0 (.slice a7 ws.length c7) (ws.map hmk) ∧ OwnH w5 B8 (.slice a8 (dropH hostN H).length c8) (dropH hostN H) ∧ w.heap.size < B8) := ⟨K4.out.1.trans (hb5.mono K4.out.1.size), K4.out.2.1.keep hb5, K4.out.2.2.1.keep hb5, K4.out.2.2.2.2.1.below hb5, K4.out.2.2.2.2.2.1.below hb5, K4.out.2.2.2.2.2.2⟩
        clear C5 hb5 K4 t0 t1
        try clear w4
        have HDL : Hid ((hostOk H = true → valsOf hostN H ≠ [] ∧ (dropH hostN H).length + 1 = H.length) ∧ (hostOk H = false → (dropH hostN H).length + 1 ≠ H.length) ∧ (valsOf hostN H = [] → hostOk H = false)) := ⟨words_host, words_host_not, hostOk_none⟩
        have hdl := dropH_len hostN H
        have HBAD : Hid ((wordsOk ws && hostOk H) = false → R = (5, rq0)) := fun h => by rw [HRR.out]; exact readQ_words H8.out HF.out HHC.out.1 (by rw [HWS.out, HHC.out.2]; exact h)
        have HGOOD : Hid ((wordsOk ws && hostOk H) = true → (rqC (reqOf ws H) = 0 → R = (0, reqOf ws H)) ∧ (¬ rqC (reqOf ws H) = 0 → R = (rqC (reqOf ws H), rq0))) := fun h => by
          refine ⟨fun hq => ?_, fun hq => ?_⟩
          · rw [HRR.out, readQ_ok H8.out HF.out HHC.out.1 (by rw [HWS.out, HHC.out.2]; exact h) (by rw [HWS.out, HHC.out.2]; exact hq), HWS.out, HHC.out.2]
          · rw [HRR.out, readQ_fault H8.out HF.out HHC.out.1 (by rw [HWS.out, HHC.out.2]; exact h) (by rw [HWS.out, HHC.out.2]; exact hq), HWS.out, HHC.out.2]
        clear HRR HF H8 HWS HHC
        obtain ⟨r0, r1, r2, r3, r4, rf, _⟩ := K5.out.2.1
        have rf0 := rf 0
        have rf1 := rf 1
        have rf2 := rf 2
        have rf3 := rf 3
        have rf4 := rf 4
        clear rf
        obtain ⟨t0, t1, _, _⟩ := K5.out.2.2.1
        by_cases h3 : ws.length = 3
        · obtain ⟨x, y, z, rfl, hwk⟩ := wordsOk_at h3
          obtain ⟨g7, c7', e7⟩ := K5.out.2.2.2.1.isS (by simp)
          simp only [List.length_map, List.length_cons, List.length_nil, Nat.zero_add, Value.slice.injEq] at e7
          obtain ⟨rfl, _, rfl⟩ := e7
          have x0 : w5.cell? ⟨g7, 0, none⟩ = some (.string (hmk x)) := K5.out.2.2.2.1.cellAt 0 (hmk x) rfl
          have x1 : w5.cell? ⟨g7, 1, none⟩ = some (.string (hmk y)) := K5.out.2.2.2.1.cellAt 1 (hmk y) rfl
          have x2 : w5.cell? ⟨g7, 2, none⟩ = some (.string (hmk z)) := K5.out.2.2.2.1.cellAt 2 (hmk z) rfl
          simp only [List.length_cons, List.length_nil, Nat.zero_add, Nat.reduceAdd]
          rw [show ((3 : Nat) : Int) = 3 from rfl]
          by_cases hz : z = verL
          · have dz : ((hmk z).toList == [72, 84, 84, 80, 47, 49, 46, 49]) = true := lit_is (by rw [hmk_list, hz]; rfl)
            rw [decide_eq_true hz] at hwk
            have HV : Hid (reqOf [x, y, z] H = ⟨hmk x, hmk (hjoinL (valsOf hostN H)), hmk y, dropH hostN H⟩) := rfl
            by_cases hv : valsOf hostN H = []
            · have da : anyV (valsOf hostN H) = false := anyV_nil hv
              have HE : Hid (R = (5, rq0)) := HBAD.out (by rw [HDL.out.2.2 hv, Bool.and_false])
              clear HBAD HGOOD hwk HDL h3 HV hv
              generalize hmk z = zt at *
              generalize anyV (valsOf hostN H) = av at *
              generalize hmk (hjoinL (valsOf hostN H)) = ht at *
              go_wp2_with fail
              have T2 := five_put (v0 := .int .i64 5) (v1 := .string ⟨#[]⟩) (v2 := .string ⟨#[]⟩) (v3 := .string ⟨#[]⟩) (v4 := .slice none 0 0) K5.out.2.1
              unfold put5 at T2
              exact bodyPost_ret (v := .agg #[.int .i64 5, .string ⟨#[]⟩, .string ⟨#[]⟩, .string ⟨#[]⟩, .slice none 0 0]) (by simp [results, Tryz.results22, go_sem, T2.c0, T2.c1, T2.c2, T2.c3, T2.c4]) rfl ⟨by rw [HE.out]; exact QGot.zero _ _ _, Below.put5 K5.out.1 (Nat.le_refl _)⟩
            · have da : anyV (valsOf hostN H) = true := anyV_some hv
              cases ho : hostOk H with
              | false =>
                have hne := HDL.out.2.1 ho
                have HE : Hid (R = (5, rq0)) := HBAD.out (by rw [ho, Bool.and_false])
                have dl : (((dropH hostN H).length : Int) == (H.length : Int) - 1) = false := int_ne_beq (by omega)
                clear HBAD HGOOD hwk HDL h3 HV hv hne ho
                generalize hmk z = zt at *
                generalize anyV (valsOf hostN H) = av at *
                generalize hmk (hjoinL (valsOf hostN H)) = ht at *
                go_wp2_with fail
                have T2 := five_put (v0 := .int .i64 5) (v1 := .string ⟨#[]⟩) (v2 := .string ⟨#[]⟩) (v3 := .string ⟨#[]⟩) (v4 := .slice none 0 0) K5.out.2.1
                unfold put5 at T2
                exact bodyPost_ret (v := .agg #[.int .i64 5, .string ⟨#[]⟩, .string ⟨#[]⟩, .string ⟨#[]⟩, .slice none 0 0]) (by simp [results, Tryz.results22, go_sem, T2.c0, T2.c1, T2.c2, T2.c3, T2.c4]) rfl ⟨by rw [HE.out]; exact QGot.zero _ _ _, Below.put5 K5.out.1 (Nat.le_refl _)⟩
              | true =>
                have hne := (HDL.out.1 ho).2
                obtain ⟨g1, g2⟩ := HGOOD.out (by rw [hwk, ho]; rfl)
                have HG : Hid ((rqC (reqOf [x, y, z] H) = 0 → R = (0, reqOf [x, y, z] H)) ∧ (¬ rqC (reqOf [x, y, z] H) = 0 → R = (rqC (reqOf [x, y, z] H), rq0))) := ⟨g1, g2⟩
                have dl : (((dropH hostN H).length : Int) == (H.length : Int) - 1) = true := by rw [beq_iff_eq]; omega
                have HRF : Hid (∀ X, HdsIn X a8 (dropH hostN H) → Calls Tryz.prog 11 #[.agg #[.string (hmk x), .string (hmk (hjoinL (valsOf hostN H))), .string (hmk y), .slice a8 (dropH hostN H).length c8]] X fun e w' => e = .returned (.int .i64 (rqC (reqOf [x, y, z] H))) ∧ Below X.heap.size X w') := fun X hx => specReq_any X (hmk x) _ (hmk y) a8 c8 (dropH hostN H) (by omega) hx
                obtain ⟨cq, hcq⟩ : ∃ cq, rqC (reqOf [x, y, z] H) = cq := ⟨_, rfl⟩
                have hqv := HV.out
                obtain ⟨rq, hrq⟩ : ∃ rq, reqOf [x, y, z] H = rq := ⟨_, rfl⟩
                rw [hcq] at HG HRF
                rw [hrq] at HG hqv
                have HRQ : Hid (rq = ⟨hmk x, hmk (hjoinL (valsOf hostN H)), hmk y, dropH hostN H⟩) := hqv
                obtain ⟨dL, hdL⟩ : ∃ dL, dropH hostN H = dL := ⟨_, rfl⟩
                rw [hdL] at HRF HRQ K5 dl
                rw [hdL]
                clear HBAD HGOOD hwk HDL h3 HV hv hne ho g1 g2 hcq hrq hqv hdL hdl
                generalize hmk z = zt at *
                generalize anyV (valsOf hostN H) = av at *
                generalize hmk (hjoinL (valsOf hostN H)) = ht at *
                obtain ⟨dn, hdn⟩ : ∃ dn, dL.length = dn := ⟨_, rfl⟩
                have HDN : Hid (dL.length = dn) := hdn
                rw [hdn] at HRF K5 dl
                rw [hdn]
                clear hdn
                generalize hmk x = xt at *
                generalize hmk y = yt at *
                have y0 : ∀ o : Obj, (w5.alloc o).cell? ⟨g7, 0, none⟩ = some (.string xt) := fun o => f_keepA o x0
                have y1 : ∀ o : Obj, (w5.alloc o).cell? ⟨g7, 1, none⟩ = some (.string yt) := fun o => f_keepA o x1
                go_wp2_with fail
                go_region
                obtain ⟨W6, hW6⟩ : ∃ W, W = (w5.alloc (.cells #[.string xt, .string ht, .string yt, .slice a8 dn c8] 26)).drew := ⟨_, rfl⟩
                have HW6 : Hid (W6 = (w5.alloc (.cells #[.string xt, .string ht, .string yt, .slice a8 dn c8] 26)).drew) := hW6
                have a6' : Below w5.heap.size w5 W6 := by rw [hW6]; exact ((Below.refl _ _).alloc (Nat.le_refl _) _).drew
                have f6 : Four W6 w5.heap.size (.string xt) (.string ht) (.string yt) (.slice a8 dn c8) := by rw [hW6]; exact (Four.new _ _ _ _ _ _).keep (Below.refl _ _).drew
                have K6 : Hid (Below w.heap.size w W6 ∧ Five W6 w.heap.size (.int .i64 0) (.string ⟨#[]⟩) (.string ⟨#[]⟩) (.string ⟨#[]⟩) (.slice none 0 0) ∧ Four W6 w5.heap.size (.string xt) (.string ht) (.string yt) (.slice a8 dn c8) ∧ OwnH W6 B8 (.slice a8 dn c8) dL ∧ w.heap.size < B8) := ⟨K5.out.1.trans (a6'.mono K5.out.1.size), K5.out.2.1.keep a6', f6, K5.out.2.2.2.2.1.below a6', K5.out.2.2.2.2.2⟩
                have C7 := HRF.out W6 (own_in K6.out.2.2.2.1).2
                clear K5 HRF hW6 a6' f6 r0 r1 r2 r3 r4 rf0 rf1 rf2 rf3 rf4 t0 t1
                go_wp2_with fail
                rw [← HW6.out]
                refine C7.mono ?_
                rintro e w7 ⟨rfl, hb7⟩
                have K7 : Hid (Below w.heap.size w w7 ∧ Five w7 w.heap.size (.int .i64 0) (.string ⟨#[]⟩) (.string ⟨#[]⟩) (.string ⟨#[]⟩) (.slice none 0 0) ∧ Four w7 w5.heap.size (.string xt) (.string ht) (.string yt) (.slice a8 dn c8) ∧ OwnH w7 B8 (.slice a8 dn c8) dL ∧ w.heap.size < B8) := ⟨K6.out.1.trans (hb7.mono K6.out.1.size), K6.out.2.1.keep hb7, K6.out.2.2.1.keep hb7, K6.out.2.2.2.1.below hb7, K6.out.2.2.2.2⟩
                clear C7 hb7 K6 HW6
                try clear W6
                generalize w5.heap.size = B9 at *
                obtain ⟨r0, r1, r2, r3, r4, rf, _⟩ := K7.out.2.1
                have rf0 := rf 0
                have rf1 := rf 1
                have rf2 := rf 2
                have rf3 := rf 3
                have rf4 := rf 4
                clear rf
                by_cases hq : cq = 0
                · subst hq
                  have HE : Hid (R = (0, ⟨xt, ht, yt, dL⟩)) := by show _ = _; rw [HG.out.1 rfl, HRQ.out]
                  clear HG HRQ
                  obtain ⟨s0, s1, s2, s3, _, _⟩ := K7.out.2.2.1
                  go_wp2_with fail
                  have T2 := five_put (v0 := .int .i64 0) (v1 := .string xt) (v2 := .string ht) (v3 := .string yt) (v4 := .slice a8 dn c8) K7.out.2.1
                  have HO := ownH_put5 (v0 := .int .i64 0) (v1 := .string xt) (v2 := .string ht) (v3 := .string yt) (v4 := .slice a8 dn c8) K7.out.2.2.2.1 K7.out.2.2.2.2
                  unfold put5 at T2
                  exact bodyPost_ret (v := .agg #[.int .i64 0, .string xt, .string ht, .string yt, .slice a8 dn c8]) (by simp [results, Tryz.results22, go_sem, T2.c0, T2.c1, T2.c2, T2.c3, T2.c4]) rfl ⟨by rw [HE.out]; exact ⟨_, rfl, HO.lower (Nat.le_of_lt K7.out.2.2.2.2)⟩, Below.put5 K7.out.1 (Nat.le_refl _)⟩
                · have HE : Hid (R = (cq, rq0)) := HG.out.2 hq
                  clear HG HRQ
                  go_wp2_with fail
                  have T2 := five_put (v0 := .int .i64 cq) (v1 := .string ⟨#[]⟩) (v2 := .string ⟨#[]⟩) (v3 := .string ⟨#[]⟩) (v4 := .slice none 0 0) K7.out.2.1
                  unfold put5 at T2
                  exact bodyPost_ret (v := .agg #[.int .i64 cq, .string ⟨#[]⟩, .string ⟨#[]⟩, .string ⟨#[]⟩, .slice none 0 0]) (by simp [results, Tryz.results22, go_sem, T2.c0, T2.c1, T2.c2, T2.c3, T2.c4]) rfl ⟨by rw [HE.out]; exact QGot.zero _ _ _, Below.put5 K7.out.1 (Nat.le_refl _)⟩
          · have dz : ((hmk z).toList == [72, 84, 84, 80, 47, 49, 46, 49]) = false := lit_not (by rw [hmk_list]; exact hz)
            have HE : Hid (R = (5, rq0)) := HBAD.out (by rw [hwk, decide_eq_false hz]; rfl)
            clear HBAD HGOOD hwk hz HDL h3
            generalize hmk z = zt at *
            generalize anyV (valsOf hostN H) = av at *
            generalize hmk (hjoinL (valsOf hostN H)) = ht at *
            go_wp2_with fail
            have T2 := five_put (v0 := .int .i64 5) (v1 := .string ⟨#[]⟩) (v2 := .string ⟨#[]⟩) (v3 := .string ⟨#[]⟩) (v4 := .slice none 0 0) K5.out.2.1
            unfold put5 at T2
            exact bodyPost_ret (v := .agg #[.int .i64 5, .string ⟨#[]⟩, .string ⟨#[]⟩, .string ⟨#[]⟩, .slice none 0 0]) (by simp [results, Tryz.results22, go_sem, T2.c0, T2.c1, T2.c2, T2.c3, T2.c4]) rfl ⟨by rw [HE.out]; exact QGot.zero _ _ _, Below.put5 K5.out.1 (Nat.le_refl _)⟩
        · have d3 : ((ws.length : Int) == 3) = false := int_ne_beq (by omega)
          have HE : Hid (R = (5, rq0)) := HBAD.out (by rw [wordsOk_len h3]; rfl)
          clear HBAD HGOOD h3 HDL
          generalize anyV (valsOf hostN H) = av at *
          generalize hmk (hjoinL (valsOf hostN H)) = ht at *
          go_wp2_with fail
          have T2 := five_put (v0 := .int .i64 5) (v1 := .string ⟨#[]⟩) (v2 := .string ⟨#[]⟩) (v3 := .string ⟨#[]⟩) (v4 := .slice none 0 0) K5.out.2.1
          unfold put5 at T2
          exact bodyPost_ret (v := .agg #[.int .i64 5, .string ⟨#[]⟩, .string ⟨#[]⟩, .string ⟨#[]⟩, .slice none 0 0]) (by simp [results, Tryz.results22, go_sem, T2.c0, T2.c1, T2.c2, T2.c3, T2.c4]) rfl ⟨by rw [HE.out]; exact QGot.zero _ _ _, Below.put5 K5.out.1 (Nat.le_refl _)⟩
      · have HE : Hid (R = (hc, rq0)) := by
          show _ = _
          rw [HRR.out, readQ_heads H8.out HF.out (by rw [HHC.out.1]; exact h0), HHC.out.1]
        clear HRR HF H8 HHC
        go_wp2_with fail
        rw [← HV2.out]
        have T2 := five_put (v0 := .int .i64 hc) (v1 := .string ⟨#[]⟩) (v2 := .string ⟨#[]⟩) (v3 := .string ⟨#[]⟩) (v4 := .slice none 0 0) K2.out.2.1
        unfold put5 at T2
        exact bodyPost_ret (v := .agg #[.int .i64 hc, .string ⟨#[]⟩, .string ⟨#[]⟩, .string ⟨#[]⟩, .slice none 0 0]) (by simp [results, Tryz.results22, go_sem, T2.c0, T2.c1, T2.c2, T2.c3, T2.c4]) rfl ⟨by rw [HE.out]; exact QGot.zero _ _ _, Below.put5 K2.out.1 (Nat.le_refl _)⟩
end Go.Proofs.YtonnggelpjjmmaaGreatDoor
/-
  What queryPieces answers.
-/
namespace Go.Proofs.YtonnggelpjjmmaaGreatDoor
open Go.ChangeShapes Go.WideShapes Go.ChangeAt Go.RowKit
set_option maxHeartbeats 1000000 in
theorem amp_any (x : Nat) (w : World) : Calls Tryz.prog 102 #[.int .i32 (x : Int)] w fun e w' => e = .returned (.bool (amp x)) ∧ w' = w := by
  have HE : Hid (amp x = ((x : Int) == 38)) := by
    show _ = _
    unfold amp
    by_cases h : x = 38
    · subst h; rfl
    · rw [beq_eq_false_iff_ne.2 h, beq_eq_false_iff_ne.2 (by omega)]
  go_enter Tryz.func102, Tryz.ntmps102
  go_wp2
  go_ret
  exact ⟨by rw [HE.out]; rfl, rfl⟩
def qParts (s : ByteArray) : List (List UInt8) := fullP (cutG 38 [] s.data.toList)
theorem qParts_len (s : ByteArray) : (qParts s).length ≤ s.size + 1 := by
  have h1 := fullP_len (cutG 38 [] s.data.toList)
  have h2 := cutG_len 38 s.data.toList []
  rw [hsize_list] at h2
  unfold qParts
  omega
theorem fields_any (s : ByteArray) (w : World) (hs : s.size ≤ 6000) (ha : ∀ (i : Nat) (h : i < s.size), s[i].toNat < 128) :
    Calls Tryz.prog 101 #[.string s, .func (.func 102) #[] #[]] w fun e w' => ∃ A, e = .returned (.slice (some ⟨A, 0, none⟩) (qParts s).length (qParts s).length) ∧ OwnS w' w.heap.size (.slice (some ⟨A, 0, none⟩) (qParts s).length (qParts s).length) ((qParts s).map hmk) ∧ Below w.heap.size w w' := by
  have hp : PredAtRunes Tryz.prog 102 #[] amp w := fun W x _ _ => (amp_any x W).mono fun e w' ⟨h1, h2⟩ => ⟨h1, 0, by rw [h2]; rfl⟩
  have h := Any.strings_FieldsFunc_runes Tryz.lays229 102 #[] (enters_of Tryz.func102 (by kernel_rfl) rfl) amp s w (by omega) hp (by kernel_rfl) (by kernel_rfl)
  have e1 : Lib.goFieldsP amp s = (qParts s).map hmk := fields_amp s ha
  rw [e1, List.length_map] at h
  refine h.mono ?_
  rintro e w' ⟨A, h1, _, h3, h4⟩
  refine ⟨A, h1, ?_, h4⟩
  unfold OwnS textsW
  rw [List.length_map]
  exact h3
theorem textsW_enc (l : List (List UInt8)) : textsW (l.map hmk) = l.map encStr := by
  unfold textsW
  rw [List.map_map]
  rfl
theorem sort_own (P : List (List UInt8)) (w w1 : World) (A : Nat) (hP : P.length ≤ 6001) (ho : OwnS w1 w.heap.size (.slice (some ⟨A, 0, none⟩) P.length P.length) (P.map hmk)) (hb : Below w.heap.size w w1) :
    Calls Tryz.prog 103 #[.slice (some ⟨A, 0, none⟩) P.length P.length] w1 fun e w' => e = .returned (.tuple #[]) ∧ OwnS w' w.heap.size (.slice (some ⟨A, 0, none⟩) P.length P.length) ((sortS P).map hmk) ∧ Below w.heap.size w w' := by
  obtain ⟨h0, h1 | ⟨g, c, cur, e, hg, hh, hc1, hc2, hc3, hc4⟩⟩ := ho
  · exact absurd h1.1 (by simp)
  · simp only [Value.slice.injEq, Option.some.injEq, Addr.mk.injEq, and_true] at e
    obtain ⟨rfl, _, rfl⟩ := e
    rw [textsW_enc, List.length_map] at hc4
    rw [List.length_map] at hc1
    have hlt := (Array.getElem?_eq_some_iff.1 hh).1
    refine (Any.slices_Sort_string Tryz.lays190 A 0 P.length P w1 (holds_of_block hh (by simpa using hc4)) hlt (by omega)).mono ?_
    rintro e w2 ⟨rfl, n, os, rfl⟩
    rw [merge_eq]
    refine ⟨rfl, ?_, hb.grown (grownBy_sorted _) hb.size (fun j hj => by cases hj; exact hg)⟩
    have e2 := ownsRow_sorted (n := n) (os := os) (sortS_len P) hg hh hc1 hc2 (by simpa using hc3)
    unfold OwnS
    rw [textsW_enc, List.length_map, sortS_len]
    exact e2
set_option maxRecDepth 100000 in
set_option maxHeartbeats 2000000 in
theorem queryPieces_any (s : ByteArray) (w : World) (hs : s.size ≤ 6000) (ha : ∀ (i : Nat) (h : i < s.size), s[i].toNat < 128) :
    Calls Tryz.prog 65 #[.string s] w fun e w' => CutRes (sortS (qParts s)) w.heap.size e w' ∧ Below w.heap.size w w' := by
  have C := fields_any s w hs ha
  have hQ := qParts_len s
  generalize qParts s = P at *
  go_enter Tryz.func65, Tryz.ntmps65
  go_wp2_with fail
  refine C.mono ?_
  rintro e w1 ⟨A, rfl, ho, hb⟩
  have C2 := sort_own P w w1 A (by omega) ho hb
  clear ho hb C
  go_wp2_with fail
  refine C2.mono ?_
  rintro e w2 ⟨rfl, ho2, hb2⟩
  have HO : Hid (OwnS w2 w.heap.size (.slice (some ⟨A, 0, none⟩) P.length P.length) ((sortS P).map hmk)) := ho2
  have HB2 : Hid (Below w.heap.size w w2) := hb2
  clear C2 ho2 hb2
  go_wp2_with fail
  go_ret
  exact ⟨⟨_, rfl, HO.out⟩, HB2.out⟩
end Go.Proofs.YtonnggelpjjmmaaGreatDoor
/-
  What KeyOf and its model answer.
-/
namespace Go.Proofs.YtonnggelpjjmmaaGreatDoor
open Go.ChangeShapes Go.WideShapes Go.ChangeAt Go.RowKit
def keyR (m h p : ByteArray) (l : List Hdr) : ByteArray := if reqC m h p l = 0 then hmk (keyT h p) else ⟨#[]⟩
theorem keyR_ok {m h p : ByteArray} {l : List Hdr} (c : reqC m h p l = 0) : keyR m h p l = hmk (keyT h p) := by rw [keyR, if_pos c]
theorem keyR_bad {m h p : ByteArray} {l : List Hdr} (c : ¬ reqC m h p l = 0) : keyR m h p l = ⟨#[]⟩ := by rw [keyR, if_neg c]
theorem qAt_pat : ∀ l : List UInt8, qAt l = patAt [63] l
  | [] => rfl
  | x :: r => by
    rw [qAt, patAt, pre_one, qAt_pat r]
    by_cases h : x = 63
    · simp [h]
    · simp [h]; try omega
theorem kcut_any (p : ByteArray) (w : World) (hm : MaxIs w) (hp : p.size ≤ 6000) :
    Calls Tryz.prog 64 #[.string p, .string ⟨#[63]⟩] w fun e w' => e = .returned (.tuple #[.string (hmk (p.data.toList.take (qAt p.data.toList))), .string (hmk (p.data.toList.drop (qAt p.data.toList + 1))), .bool (decide (qAt p.data.toList < p.data.toList.length))]) ∧ Below w.heap.size w w' := by
  obtain ⟨m, hm⟩ := hm
  have h := Any.strings_Cut Tryz.laysM145.ton145 p ⟨#[63]⟩ m w (by omega) hm
  rw [show (⟨#[63]⟩ : ByteArray).data.toList = [63] from rfl] at h
  rw [qAt_pat]
  by_cases c : patAt [63] p.data.toList < p.data.toList.length
  · rw [cut_pat (by simp) c] at h
    rw [decide_eq_true c]
    exact h.mono fun e w' ⟨h1, n, h2⟩ => ⟨h1, h2 ▸ below_drewN w n⟩
  · rw [cut_pat_no (by simp) c] at h
    rw [decide_eq_false c, List.take_of_length_le (by omega), List.drop_of_length_le (by omega)]
    exact h.mono fun e w' ⟨h1, n, h2⟩ => ⟨h1, h2 ▸ below_drewN w n⟩
theorem join_amp (w : World) (base : Nat) (v : Value) (xs : List ByteArray) (h : OwnS w base v xs) (hN : xs.length ≤ 1000000) (hlen : (Lib.join (xs.map (·.data.toList)) [38]).length ≤ 1000000) :
    Calls Tryz.prog 66 #[v, .string ⟨#[38]⟩] w fun e w' => e = .returned (.string ⟨(Lib.join (xs.map (·.data.toList)) [38]).toArray⟩) ∧ Below w.heap.size w w' := by
  have h0 := h
  obtain ⟨_, h1 | ⟨g, c, cur, rfl, _, hh, hcap, _⟩⟩ := h
  · have : xs = [] := List.eq_nil_of_length_eq_zero h1.2
    subst this
    rw [h1.1]
    exact (Any.strings_Join_none Tryz.lays156 joinExtra none 0 ⟨#[38]⟩ w).mono fun e w' ⟨he, hw⟩ => ⟨he, hw ▸ Below.refl _ _⟩
  · refine Any.strings_Join Tryz.lays156 joinExtra g 0 c xs ⟨#[38]⟩ w ?_ (Array.getElem?_eq_some_iff.1 hh).1 (by omega) hcap (by simpa using (by omega : (Lib.join (xs.map (·.data.toList)) [38]).length ≤ 140737488355328))
    intro j x hj
    have hj2 := (List.getElem?_eq_some_iff.1 hj).1
    have := World.ownsRow.cellAt h0 j (by omega)
    rw [show 0 + j = j from by omega]
    rw [this]
    simp [textsW, hj]
theorem hmk_back (S : List (List UInt8)) : (S.map hmk).map (·.data.toList) = S := by
  rw [List.map_map]
  have : ((fun x : ByteArray => x.data.toList) ∘ hmk) = id := by funext x; simp [hmk]
  rw [this, List.map_id]
theorem path_ascii {p : ByteArray} (h : pathS p = true) (k : Nat) : ∀ (i : Nat) (hi : i < (hmk (p.data.toList.drop k)).size), (hmk (p.data.toList.drop k))[i].toNat < 128 := by
  intro i hi
  have hm : (hmk (p.data.toList.drop k))[i] ∈ p.data.toList := by
    have h1 : (hmk (p.data.toList.drop k))[i] ∈ (hmk (p.data.toList.drop k)).data.toList := by
      show (hmk (p.data.toList.drop k)).data[i] ∈ _
      exact Array.mem_toList_iff.2 (Array.getElem_mem _)
    rw [hmk_list] at h1
    exact List.mem_of_mem_drop h1
  have h2 : allP pathI p.data.toList = true := by
    simp only [pathS, Bool.and_eq_true] at h
    exact h.2
  have h3 := allP_mem h2 _ hm
  by_cases c : (hmk (p.data.toList.drop k))[i].toNat < 128
  · exact c
  · rw [pathI_big _ (by omega)] at h3; cases h3
set_option maxRecDepth 100000 in
set_option maxHeartbeats 8000000 in
theorem implKey_any (E : Errs) (w : World) (m h p : ByteArray) (a : Option Addr) (cap : Nat) (l : List Hdr) (hl : l.length ≤ 1048576) (hcap : l.length ≤ cap) (hps : p.size ≤ 1048576) (hset : SetIs w) (hE : ErrsIs w E) (hmx : MaxIs w) (hi : HdsIn w a l) :
    Calls Tryz.prog 27 #[.agg #[.string m, .string h, .string p, .slice a l.length cap]] w fun e w' => e = .returned (.agg #[.int .i64 (reqC m h p l), .string (keyR m h p l)]) ∧ Below w.heap.size w w' := by
  obtain ⟨W, hW⟩ : ∃ W, W = (w.alloc (.cells #[.string m, .string h, .string p, .slice a l.length cap] 26)).alloc (.cells #[.int .i64 0, .string ⟨#[]⟩] 50) := ⟨_, rfl⟩
  have HW : Hid (W = (w.alloc (.cells #[.string m, .string h, .string p, .slice a l.length cap] 26)).alloc (.cells #[.int .i64 0, .string ⟨#[]⟩] 50)) := hW
  have bW : Below w.heap.size w W := by rw [hW]; exact ((Below.refl _ _).alloc (Nat.le_refl _) _).alloc (by simp) _
  have f0 : Four W w.heap.size (.string m) (.string h) (.string p) (.slice a l.length cap) := by rw [hW]; exact (Four.new _ _ _ _ _ _).keep ((Below.refl _ _).alloc (Nat.le_refl _) _)
  have t0 : Two W (w.heap.size + 1) (.int .i64 0) (.string ⟨#[]⟩) := by
    rw [hW]
    have := Two.new (w.alloc (.cells #[.string m, .string h, .string p, .slice a l.length cap] 26)) (.int .i64 0) (.string ⟨#[]⟩) 50
    simpa using this
  have C := implReq_any E W m h p a cap l hl hcap hps (hset.below bW) (hE.below bW) (hi.keep bW)
  have K0 : Hid (Below w.heap.size w W ∧ Four W w.heap.size (.string m) (.string h) (.string p) (.slice a l.length cap) ∧ Two W (w.heap.size + 1) (.int .i64 0) (.string ⟨#[]⟩)) := ⟨bW, f0, t0⟩
  have HM : Hid (∀ X, Below w.heap.size w X → MaxIs X) := fun X hb => hmx.below hb
  have HCC : Hid ((reqC m h p l = 0 → keyR m h p l = hmk (keyT h p) ∧ lineS m h p = true ∧ h.size ≤ 60 ∧ p.size ≤ 100) ∧ (¬ reqC m h p l = 0 → keyR m h p l = ⟨#[]⟩)) := ⟨fun c0 => ⟨keyR_ok c0, (reqC_zero c0).1, (method_size (reqC_zero c0).1).2⟩, keyR_bad⟩
  clear hW bW f0 t0 hi hset hE hmx
  generalize keyR m h p l = kr at *
  generalize reqC m h p l = c at *
  have hc3 := K0.out.2.1.c3
  rw [HW.out] at hc3
  go_enter Tryz.func27, Tryz.ntmps27
  go_wp2_with fail
  rw [← HW.out]
  refine C.mono ?_
  rintro e w1 ⟨rfl, hb1⟩
  have K1 : Hid (Below w.heap.size w w1 ∧ Four w1 w.heap.size (.string m) (.string h) (.string p) (.slice a l.length cap) ∧ Two w1 (w.heap.size + 1) (.int .i64 0) (.string ⟨#[]⟩)) := ⟨K0.out.1.trans (hb1.mono K0.out.1.size), K0.out.2.1.keep hb1, K0.out.2.2.keep hb1⟩
  clear C hb1 K0 HW hc3
  by_cases c0 : c = 0
  · subst c0
    obtain ⟨z1, y1, z2, z3⟩ := HCC.out.1 rfl
    have C5 := kcut_any p w1 (HM.out w1 K1.out.1) (by omega)
    have HPA := path_ascii (lineS_true y1).2.2 (qAt p.data.toList + 1)
    obtain ⟨S, hS⟩ : ∃ S, S = sortS (qParts (hmk (p.data.toList.drop (qAt p.data.toList + 1)))) := ⟨_, rfl⟩
    have hSk : S = keyParts p.data.toList := by rw [hS]; unfold qParts keyParts; rw [hmk_list]
    have hSl : S.length ≤ 101 := by rw [hSk]; have := keyParts_len p.data.toList; rw [hsize_list] at this; omega
    have hSs : sumL S ≤ 100 := by rw [hSk]; have := keyParts_sum p.data.toList; rw [hsize_list] at this; omega
    have HQ : Hid (∀ X, Calls Tryz.prog 65 #[.string (hmk (p.data.toList.drop (qAt p.data.toList + 1)))] X fun e w' => CutRes S X.heap.size e w' ∧ Below X.heap.size X w') := fun X => by
      rw [hS]
      exact queryPieces_any _ X (by rw [hmk_size, List.length_drop, hsize_list]; omega) HPA
    have HL : Hid (∀ X, Calls Tryz.prog 28 #[.string h] X fun e w' => e = .returned (.agg #[.int .i64 0, .string (lowS h)]) ∧ Below X.heap.size X w') := fun X => implLower_any h X (by omega)
    obtain ⟨o0, ho0⟩ : ∃ o : ByteArray, o = lowS h ++ hmk (p.data.toList.take (qAt p.data.toList)) := ⟨_, rfl⟩
    have so0 : o0.size ≤ 160 := by rw [ho0, ByteArray.size_append, lowS_size, hmk_size, List.length_take, hsize_list]; omega
    have add0 : ∀ X, (Op.stringOp .add (lowS h) (hmk (p.data.toList.take (qAt p.data.toList)))).run Tryz.prog X = .ok (.string o0) X := fun X => by rw [ho0]; exact run_string_add_sum X _ _ (by rw [lowS_size, hmk_size, List.length_take, hsize_list]; omega)
    have HR : Hid (∀ t : ByteArray, t.data.toList = o0.data.toList ++ keyQ S → t = kr) := fun t ht => by
      rw [z1]
      refine hof_list ?_
      rw [ht, ho0, happ_list, hmk_list, keyT, hSk]
    clear ho0 hS hSk HPA y1 z1 HCC
    generalize lowS h = lw at *
    generalize hmk (p.data.toList.take (qAt p.data.toList)) = pt at *
    generalize hmk (p.data.toList.drop (qAt p.data.toList + 1)) = qy at *
    generalize decide (qAt p.data.toList < p.data.toList.length) = fb at *
    have hft := f_field_text
    obtain ⟨q0, q1, q2, q3, _, _⟩ := K1.out.2.1
    go_wp2_with fail
    refine C5.mono ?_
    rintro e w2 ⟨rfl, hb2⟩
    have K2 : Hid (Below w.heap.size w w2 ∧ Four w2 w.heap.size (.string m) (.string h) (.string p) (.slice a l.length cap) ∧ Two w2 (w.heap.size + 1) (.int .i64 0) (.string ⟨#[]⟩)) := ⟨K1.out.1.trans (hb2.mono K1.out.1.size), K1.out.2.1.keep hb2, K1.out.2.2.keep hb2⟩
    clear C5 hb2 K1 q0 q1 q2 q3
    have C6 := HL.out w2
    obtain ⟨q0, q1, q2, q3, _, _⟩ := K2.out.2.1
    go_wp2_with fail
    refine C6.mono ?_
    rintro e w3 ⟨rfl, hb3⟩
    have K3 : Hid (Below w.heap.size w w3 ∧ Two w3 (w.heap.size + 1) (.int .i64 0) (.string ⟨#[]⟩)) := ⟨K2.out.1.trans (hb3.mono K2.out.1.size), K2.out.2.2.keep hb3⟩
    clear C6 hb3 K2 q0 q1 q2 q3 HL
    have C7 := HQ.out w3
    go_wp2_with fail
    refine C7.mono ?_
    rintro e w4 ⟨⟨v, rfl, ho⟩, hb4⟩
    have K4 : Hid (Below w.heap.size w w4 ∧ Two w4 (w.heap.size + 1) (.int .i64 0) (.string ⟨#[]⟩)) := ⟨K3.out.1.trans (hb4.mono K3.out.1.size), K3.out.2.keep hb4⟩
    obtain ⟨a5, c5, rfl, _⟩ := ho.shape
    rw [List.length_map] at ho ⊢
    have HO : Hid (OwnS w4 w3.heap.size (.slice a5 S.length c5) (S.map hmk)) := ho
    clear C7 hb4 K3 HQ ho
    obtain ⟨r0, r1, rf, _⟩ := K4.out.2
    have rf0 := rf 0
    have rf1 := rf 1
    clear rf
    by_cases hn : S.length = 0
    · have HE : Hid (o0 = kr) := by
        refine HR.out o0 ?_
        have : S = [] := List.eq_nil_of_length_eq_zero hn
        rw [this, keyQ_nil, List.append_nil]
      have gn : ¬ (0 : Int) < S.length := by omega
      clear HR HO
      generalize S.length = n at *
      go_wp2_with fail
      have T2 := two_put (v0 := .int .i64 0) (v1 := .string o0) K4.out.2
      exact bodyPost_ret (v := .agg #[.int .i64 0, .string o0]) (by simp [results, Tryz.results27, go_sem, T2.c0, T2.c1]) rfl ⟨by rw [HE.out], (K4.out.1.setCell (by simp) _).setCell (by simp) _⟩
    · have gn : (0 : Int) < S.length := by omega
      have hjl : (Lib.join S [38]).length ≤ 1000 := by
        have := keyQ_len S
        rw [keyQ, if_neg (fun e => hn (by rw [e]; rfl)), List.length_cons] at this
        omega
      have C8 := join_amp w4 w3.heap.size _ _ HO.out (by rw [List.length_map]; omega) (by rw [hmk_back]; omega)
      rw [hmk_back] at C8
      obtain ⟨j, hj⟩ : ∃ j : ByteArray, j = ⟨(Lib.join S [38]).toArray⟩ := ⟨_, rfl⟩
      rw [← hj] at C8
      have sj : j.size ≤ 1000 := by rw [hj]; show (Lib.join S [38]).toArray.size ≤ 1000; rw [List.size_toArray]; exact hjl
      have lit1 : (⟨#[63]⟩ : ByteArray).size = 1 := rfl
      obtain ⟨x1, hx1⟩ : ∃ x : ByteArray, x = ⟨#[63]⟩ ++ j := ⟨_, rfl⟩
      have sx1 : x1.size = 1 + j.size := by rw [hx1, ByteArray.size_append, lit1]
      have add1 : ∀ X, (Op.stringOp .add ⟨#[63]⟩ j).run Tryz.prog X = .ok (.string x1) X := fun X => by rw [hx1]; exact run_string_add_sum X _ _ (by omega)
      obtain ⟨x2, hx2⟩ : ∃ x : ByteArray, x = o0 ++ x1 := ⟨_, rfl⟩
      have add2 : ∀ X, (Op.stringOp .add o0 x1).run Tryz.prog X = .ok (.string x2) X := fun X => by rw [hx2]; exact run_string_add_sum X _ _ (by omega)
      have HE : Hid (x2 = kr) := by
        refine HR.out x2 ?_
        rw [hx2, happ_list, hx1, happ_list, hj, keyQ, if_neg (fun e => hn (by rw [e]; rfl))]
        simp
      clear HR HO hx1 hx2 hj sx1 lit1 sj hjl hn hSs hSl
      generalize S.length = n at *
      go_wp2_with fail
      refine C8.mono ?_
      rintro e w5 ⟨rfl, hb5⟩
      have K5 : Hid (Below w.heap.size w w5 ∧ Two w5 (w.heap.size + 1) (.int .i64 0) (.string ⟨#[]⟩)) := ⟨K4.out.1.trans (hb5.mono K4.out.1.size), K4.out.2.keep hb5⟩
      clear C8 hb5 K4 r0 r1 rf0 rf1
      obtain ⟨r0, r1, rf, _⟩ := K5.out.2
      have rf0 := rf 0
      have rf1 := rf 1
      clear rf
      go_wp2_with fail
      have T2 := two_put (v0 := .int .i64 0) (v1 := .string x2) K5.out.2
      exact bodyPost_ret (v := .agg #[.int .i64 0, .string x2]) (by simp [results, Tryz.results27, go_sem, T2.c0, T2.c1]) rfl ⟨by rw [HE.out], (K5.out.1.setCell (by simp) _).setCell (by simp) _⟩
  · have HR : Hid (kr = ⟨#[]⟩) := HCC.out.2 c0
    obtain ⟨r0, r1, rf, _⟩ := K1.out.2.2
    have rf0 := rf 0
    have rf1 := rf 1
    clear rf HM HCC
    go_wp2_with fail
    have T2 := two_put (v0 := .int .i64 c) (v1 := .string ⟨#[]⟩) K1.out.2.2
    exact bodyPost_ret (v := .agg #[.int .i64 c, .string ⟨#[]⟩]) (by simp [results, Tryz.results27, go_sem, T2.c0, T2.c1]) rfl ⟨by rw [HR.out], (K1.out.1.setCell (by simp) _).setCell (by simp) _⟩
end Go.Proofs.YtonnggelpjjmmaaGreatDoor
/-
  What requestIn answers.
-/
namespace Go.Proofs.YtonnggelpjjmmaaGreatDoor
open Go.ChangeShapes Go.WideShapes Go.ChangeAt Go.RowKit
theorem pat_cr : ∀ l : List UInt8, patAt [13, 10] l = crAt l
  | [] => rfl
  | [x] => by simp [patAt, crAt, List.isPrefixOf]
  | x :: y :: r => by
    rw [patAt, crAt, pat_cr (y :: r)]
    by_cases h : x = 13 ∧ y = 10
    · rw [if_pos h, if_pos (by simp [List.isPrefixOf, h.1, h.2])]
    · rw [if_neg h, if_neg ?_]
      intro e
      simp only [List.isPrefixOf, Bool.and_true, Bool.and_eq_true, beq_iff_eq] at e
      exact h ⟨e.1.symm, e.2.symm⟩
theorem mcut_yes (l : List UInt8) (w : World) (hm : MaxIs w) (hl : l.length ≤ 20000) (h : crAt l < l.length) :
    Calls Tryz.prog 64 #[.string (hmk l), .string ⟨#[13, 10]⟩] w fun e w' => e = .returned (.tuple #[.string (hmk (l.take (crAt l))), .string (hmk (l.drop (crAt l + 2))), .bool true]) ∧ Below w.heap.size w w' := by
  obtain ⟨m, hm⟩ := hm
  have := Any.strings_Cut Tryz.laysM145.ton145 (hmk l) ⟨#[13, 10]⟩ m w (by rw [hmk_size]; omega) hm
  rw [hmk_list, show (⟨#[13, 10]⟩ : ByteArray).data.toList = [13, 10] from rfl, cut_cr h] at this
  exact this.mono fun e w' ⟨h1, n, h2⟩ => ⟨h1, h2 ▸ below_drewN w n⟩
theorem mcut_no (l : List UInt8) (w : World) (hm : MaxIs w) (hl : l.length ≤ 20000) (h : ¬ crAt l < l.length) :
    Calls Tryz.prog 64 #[.string (hmk l), .string ⟨#[13, 10]⟩] w fun e w' => e = .returned (.tuple #[.string (hmk l), .string ⟨#[]⟩, .bool false]) ∧ Below w.heap.size w w' := by
  obtain ⟨m, hm⟩ := hm
  have := Any.strings_Cut Tryz.laysM145.ton145 (hmk l) ⟨#[13, 10]⟩ m w (by rw [hmk_size]; omega) hm
  rw [hmk_list, show (⟨#[13, 10]⟩ : ByteArray).data.toList = [13, 10] from rfl, cut_pat_no (by simp) (by rw [pat_cr]; exact h)] at this
  exact this.mono fun e w' ⟨h1, n, h2⟩ => ⟨h1, h2 ▸ below_drewN w n⟩
theorem msuffix (s : ByteArray) (w : World) (hs : s.size ≤ 20000) :
    Calls Tryz.prog 82 #[.string s, .string ⟨#[13, 10, 13, 10]⟩] w fun e w' => e = .returned (.bool (([13, 10, 13, 10] : List UInt8).isSuffixOf s.data.toList)) ∧ w' = w :=
  Any.strings_HasSuffix Tryz.lays100 s ⟨#[13, 10, 13, 10]⟩ w (by omega)
theorem mtrim (r : List UInt8) (w : World) (hr : r.length ≤ 20000) (h : okRest r = true) :
    Calls Tryz.prog 84 #[.string (hmk r), .string ⟨#[13, 10]⟩] w fun e w' => e = .returned (.string (hmk (r.take (r.length - 2)))) ∧ w' = w := by
  have := Any.strings_TrimSuffix Tryz.lays102 (hmk r) ⟨#[13, 10]⟩ w (by rw [hmk_size]; omega)
  rw [hmk_list, show (⟨#[13, 10]⟩ : ByteArray).data.toList = [13, 10] from rfl, Lib.trimSuffix, if_pos (okRest_suffix h)] at this
  exact this
theorem msplit (s : ByteArray) (w : World) (hm : MaxIs w) (hs : s.size ≤ 20000) :
    Calls Tryz.prog 85 #[.string s, .string ⟨#[32]⟩] w fun e w' => CutRes (cutG 32 [] s.data.toList) w.heap.size e w' ∧ Below w.heap.size w w' := by
  obtain ⟨m, hm⟩ := hm
  have := Any.strings_Split Tryz.lays146 infoStr s ⟨#[32]⟩ m w (by omega) hm (Nat.le_refl _)
  rw [cutG_count, splitB_cut] at this
  refine this.mono ?_
  rintro e w' ⟨rfl, rfl⟩
  have hl := cutG_len 32 s.data.toList []
  rw [hsize_list] at hl
  generalize cutG 32 [] s.data.toList = ws at *
  refine ⟨⟨_, rfl, ?_⟩, (Below.refl _ _).alloc (Nat.le_refl _) _⟩
  unfold OwnS
  refine ⟨by simp [textsW], .inr ⟨w.heap.size, ws.length, _, by rw [List.length_map], Nat.le_refl _, heap_alloc_new _ _, by simp, by unfold maxLen; omega, by simp, ?_⟩⟩
  simp only [textsW, List.map_map, List.length_map]
  exact List.take_of_length_le (by simp)
theorem own_in3 {w : World} {base : Nat} {a : Option Addr} {n c : Nat} {L : List Hdr} (h : OwnH w base (.slice a n c) L) : n = L.length ∧ HdsIn w a L ∧ L.length ≤ c := by
  have h1 := own_in h
  refine ⟨h1.1, h1.2, ?_⟩
  obtain ⟨_, h2 | ⟨g, c', cur, e, _, _, hc, _⟩⟩ := h
  · have e := List.eq_nil_of_length_eq_zero h2.2
    rw [e]; exact Nat.zero_le _
  · simp only [Value.slice.injEq] at e
    obtain ⟨_, _, rfl⟩ := e
    exact hc
theorem m_field_heads (c : Int) (a : Option Addr) (n k : Nat) (w : World) : (Instr.field 84 (.agg #[.int .i64 c, .slice a n k]) 1).run Tryz.prog w = .ok (.slice a n k) w := by kernel_rfl
def put4 (w : World) (B : Nat) (v0 v1 v2 v3 : Value) : World := (((w.setCell ⟨B, 0, none⟩ v0).setCell ⟨B, 1, none⟩ v1).setCell ⟨B, 2, none⟩ v2).setCell ⟨B, 3, none⟩ v3
theorem four_put {w : World} {B : Nat} {u0 u1 u2 u3 v0 v1 v2 v3 : Value} (h : Four w B u0 u1 u2 u3) : Four (put4 w B v0 v1 v2 v3) B v0 v1 v2 v3 := by
  have o : ∀ (X : World) (i j : Nat) (v : Value), i ≠ j → (X.setCell ⟨B, i, none⟩ v).cell? ⟨B, j, none⟩ = X.cell? ⟨B, j, none⟩ := fun X i j v hij => World.cell?_setCell_other _ _ _ _ (off_ne hij)
  unfold put4
  refine ⟨?_, ?_, ?_, ?_, fun o => by simp only [World.frozen?_setCell]; exact h.fr o, by simpa using h.lt⟩
  · rw [o _ _ _ _ (by omega), o _ _ _ _ (by omega), o _ _ _ _ (by omega)]; exact World.cell?_setCell_same _ _ _ h.c0
  · rw [o _ _ _ _ (by omega), o _ _ _ _ (by omega)]; exact World.cell?_setCell_same _ _ _ (by rw [o _ _ _ _ (by omega)]; exact h.c1)
  · rw [o _ _ _ _ (by omega)]; exact World.cell?_setCell_same _ _ _ (by rw [o _ _ _ _ (by omega), o _ _ _ _ (by omega)]; exact h.c2)
  · exact World.cell?_setCell_same _ _ _ (by rw [o _ _ _ _ (by omega), o _ _ _ _ (by omega), o _ _ _ _ (by omega)]; exact h.c3)
theorem Below.put4 {w w' : World} {base B : Nat} {v0 v1 v2 v3 : Value} (h : Below base w w') (hB : base ≤ B) : Below base w (put4 w' B v0 v1 v2 v3) :=
  (((h.setCell hB _).setCell hB _).setCell hB _).setCell hB _
theorem ownH_put4 {w : World} {base B : Nat} {v : Value} {l : List Hdr} {v0 v1 v2 v3 : Value} (h : OwnH w base v l) (hB : B < base) : OwnH (put4 w B v0 v1 v2 v3) base v l :=
  ownH_set (ownH_set (ownH_set (ownH_set h hB) hB) hB) hB
/-- What requestIn hands back: a request (of its own, where there is no error), and the error of a code. -/
def QIn (E : Errs) (c : Int) (q : Rq) (base : Nat) (e : Ending) (w : World) : Prop := ∃ m h p a n k, e = .returned (.tuple #[.agg #[.string m, .string h, .string p, .slice a n k], errV E c]) ∧ (c = 0 → q.m = m ∧ q.h = h ∧ q.p = p ∧ OwnH w base (.slice a n k) q.l)
theorem QIn.bad {E : Errs} {c : Int} {q : Rq} {base : Nat} {m h p : ByteArray} {a : Option Addr} {n k : Nat} {w : World} {ev : Value} (h0 : ¬ c = 0) (he : ev = errV E c) : QIn E c q base (.returned (.tuple #[.agg #[.string m, .string h, .string p, .slice a n k], ev])) w := ⟨m, h, p, a, n, k, by rw [he], fun h => absurd h h0⟩
end Go.Proofs.YtonnggelpjjmmaaGreatDoor
/-
  What requestIn answers.
-/
namespace Go.Proofs.YtonnggelpjjmmaaGreatDoor
open Go.ChangeShapes Go.WideShapes Go.ChangeAt Go.RowKit
theorem errV_iface (E : Errs) (c : Int) (h : ¬ c = 0) : ∃ p, errV E c = .iface 230 (.pointer (some p)) := by
  unfold errV
  rw [if_neg h]
  split
  · exact ⟨_, rfl⟩
  · split
    · exact ⟨_, rfl⟩
    · split
      · exact ⟨_, rfl⟩
      · exact ⟨_, rfl⟩
theorem readHC_codes (s : ByteArray) : readHC s = 0 ∨ readHC s = 2 ∨ readHC s = 5 := by
  unfold readHC
  split
  · simp
  · split
    · simp
    · exact headsC_codes _
theorem joinT_host {H : List Hdr} (h0 : headsC H = 0) : joinT H hostT = hmk (hjoinL (valsOf hostN H)) ∧ dropL H hostT = dropH hostN H ∧ askC H hostT = 0 := by
  have ha := askC_word h0 hostT_word
  refine ⟨?_, by rw [dropL_ok ha, hostT_low], ha⟩
  by_cases hv : valsOf (lowS hostT) H = []
  · rw [(join_none ha hv).2]
    rw [hostT_low] at hv
    rw [hv]; rfl
  · rw [(join_some ha hv).2, hostT_low]; rfl
/-- What lies in memory while a request that was read is asked for its error. -/
structure RQS (w : World) (xt ht yt : ByteArray) (a8 : Option Addr) (dn c8 B8 : Nat) (dL : List Hdr) (B : Nat) (X : World) : Prop where
  b : Below w.heap.size w X
  four : Four X B (.string xt) (.string ht) (.string yt) (.slice a8 dn c8)
  own : OwnH X B8 (.slice a8 dn c8) dL
  lt8 : w.heap.size < B8
  ltB : w.heap.size < B
  res : ∃ u0 u1 u2 u3, Four X w.heap.size u0 u1 u2 u3
theorem RQS.keep {w : World} {xt ht yt : ByteArray} {a8 : Option Addr} {dn c8 B8 : Nat} {dL : List Hdr} {B : Nat} {X X' : World} (h : RQS w xt ht yt a8 dn c8 B8 dL B X) (hb : Below X.heap.size X X') : RQS w xt ht yt a8 dn c8 B8 dL B X' := by
  obtain ⟨u0, u1, u2, u3, hr⟩ := h.res
  exact ⟨h.b.trans (hb.mono h.b.size), h.four.keep hb, h.own.below hb, h.lt8, h.ltB, ⟨u0, u1, u2, u3, hr.keep hb⟩⟩
theorem RQS.put {w : World} {xt ht yt : ByteArray} {a8 : Option Addr} {dn c8 B8 : Nat} {dL : List Hdr} {B : Nat} {X : World} (h : RQS w xt ht yt a8 dn c8 B8 dL B X) (v0 v1 v2 v3 : Value) : RQS w xt ht yt a8 dn c8 B8 dL B (put4 X w.heap.size v0 v1 v2 v3) ∧ Four (put4 X w.heap.size v0 v1 v2 v3) w.heap.size v0 v1 v2 v3 := by
  obtain ⟨u0, u1, u2, u3, hr⟩ := h.res
  have h4 := four_put (v0 := v0) (v1 := v1) (v2 := v2) (v3 := v3) hr
  have hlt := h.ltB
  have ot : ∀ (Y : World) (i j : Nat) (v : Value), (Y.setCell ⟨w.heap.size, i, none⟩ v).cell? ⟨B, j, none⟩ = Y.cell? ⟨B, j, none⟩ := fun Y i j v => World.cell?_setCell_other _ _ _ _ (fun e => by have := congrArg Addr.block e; simp only at this; omega)
  refine ⟨⟨Below.put4 h.b (Nat.le_refl _), ⟨?_, ?_, ?_, ?_, ?_, ?_⟩, ownH_put4 h.own h.lt8, h.lt8, h.ltB, ⟨_, _, _, _, h4⟩⟩, h4⟩
  · unfold put4; rw [ot, ot, ot, ot]; exact h.four.c0
  · unfold put4; rw [ot, ot, ot, ot]; exact h.four.c1
  · unfold put4; rw [ot, ot, ot, ot]; exact h.four.c2
  · unfold put4; rw [ot, ot, ot, ot]; exact h.four.c3
  · intro o; unfold put4; simp only [World.frozen?_setCell]; exact h.four.fr o
  · unfold put4; simpa using h.four.lt
set_option maxRecDepth 100000 in
set_option maxHeartbeats 16000000 in
theorem implReqIn_any (E : Errs) (w : World) (d : List UInt8) (h8 : ¬ 8000 < d.length) (hset : SetIs w) (hE : ErrsIs w E) (hmx : MaxIs w) :
    Calls Tryz.prog 42 #[.string (hmk d)] w fun e w' => QIn E (readQ d).1 (readQ d).2 w.heap.size e w' ∧ Below w.heap.size w w' := by
  obtain ⟨W, hW⟩ : ∃ W, W = w.alloc (.cells #[.string ⟨#[]⟩, .string ⟨#[]⟩, .string ⟨#[]⟩, .slice none 0 0] 26) := ⟨_, rfl⟩
  have HW : Hid (W = w.alloc (.cells #[.string ⟨#[]⟩, .string ⟨#[]⟩, .string ⟨#[]⟩, .slice none 0 0] 26)) := hW
  have bW : Below w.heap.size w W := by rw [hW]; exact (Below.refl _ _).alloc (Nat.le_refl _) _
  have f0 : Four W w.heap.size (.string ⟨#[]⟩) (.string ⟨#[]⟩) (.string ⟨#[]⟩) (.slice none 0 0) := by rw [hW]; exact Four.new _ _ _ _ _ _
  have K0 : Hid (Below w.heap.size w W ∧ Four W w.heap.size (.string ⟨#[]⟩) (.string ⟨#[]⟩) (.string ⟨#[]⟩) (.slice none 0 0)) := ⟨bW, f0⟩
  obtain ⟨R, hR⟩ : ∃ R, R = readQ d := ⟨_, rfl⟩
  have HRR : Hid (R = readQ d) := hR
  rw [← hR]
  have HE0 : Hid (∀ X, Below w.heap.size w X → ErrsIs X E) := fun X hb => hE.below hb
  have h3 : 3 < w.heap.size := block_lt_of_cell hE.gU
  have hne : ∀ (X : World) (i : Nat) (v : Value), (X.setCell ⟨w.heap.size, i, none⟩ v).cell? ⟨3, 0, none⟩ = X.cell? ⟨3, 0, none⟩ := fun X i v => World.cell?_setCell_other _ _ _ _ (fun e => by have := congrArg Addr.block e; simp only at this; omega)
  have HS : Hid (∀ X, Below w.heap.size w X → SetIs X ∧ MaxIs X) := fun X hb => ⟨hset.below hb, hmx.below hb⟩
  clear hR bW f0 hset hE hmx hW
  by_cases hc : crAt d < d.length
  · have C := mcut_yes d W (HS.out W K0.out.1).2 (by omega) hc
    have hr2 := crAt_room d hc
    obtain ⟨r, hr⟩ : ∃ r, d.drop (crAt d + 2) = r := ⟨_, rfl⟩
    have hrl : r.length + (crAt d + 2) = d.length := by rw [← hr, List.length_drop]; omega
    have hlnl : (d.take (crAt d)).length ≤ 8000 := by rw [List.length_take]; omega
    have HFY : Hid (okRest r = true → firstO d = some (d.take (crAt d), r.take (r.length - 2))) := fun h => by
      have := firstO_yes hc (by rw [hr]; exact h)
      rw [hr] at this
      rw [this]
      congr 3
      omega
    have HFN : Hid (okRest r = false → firstO d = none) := fun h => firstO_bad (by rw [hr]; exact h)
    rw [hr] at C
    have hrl2 : r.length ≤ 8000 := by omega
    have H8 : Hid (¬ 8000 < d.length) := h8
    clear hr hr2 hrl hc
    generalize d.take (crAt d) = ln at *
    generalize hmk d = t at *
    cases hok : okRest r with
    | false =>
      have HE : Hid (R = (5, rq0)) := by show _ = _; rw [HRR.out]; exact readQ_none h8 (HFN.out hok)
      have h1 : ¬ r = [13, 10] := fun e => by rw [okRest_is e] at hok; cases hok
      have d1 : ((hmk r).toList == [13, 10]) = false := lit_not (by rw [hmk_list]; exact h1)
      have C2 := fun X => msuffix (hmk r) X (by rw [hmk_size]; omega)
      rw [hmk_list, ← okRest_by h1, hok] at C2
      have HC2 : Hid (∀ X, Calls Tryz.prog 82 #[.string (hmk r), .string ⟨#[13, 10, 13, 10]⟩] X fun e w' => e = .returned (.bool false) ∧ w' = X) := C2
      clear HRR HFY HFN h1 hok C2 H8 h8
      generalize hmk r = rt at *
      generalize hmk ln = lt at *
      go_enter Tryz.func42, Tryz.ntmps42
      go_wp2_with fail
      rw [← HW.out]
      refine C.mono ?_
      rintro e w1 ⟨rfl, hb1⟩
      have K1 : Hid (Below w.heap.size w w1 ∧ Four w1 w.heap.size (.string ⟨#[]⟩) (.string ⟨#[]⟩) (.string ⟨#[]⟩) (.slice none 0 0)) := ⟨K0.out.1.trans (hb1.mono K0.out.1.size), K0.out.2.keep hb1⟩
      have C2 := HC2.out w1
      clear C hb1 K0 HW HC2
      go_wp2_with fail
      refine C2.mono ?_
      rintro e w2 ⟨rfl, hw⟩
      obtain rfl := hw.symm
      clear hw C2
      obtain ⟨r0, r1, r2, r3, rf, _⟩ := K1.out.2
      have rf0 := rf 0
      have rf1 := rf 1
      have rf2 := rf 2
      have rf3 := rf 3
      clear rf
      have gU := (HE0.out w1 K1.out.1).gU
      go_wp2_with fail
      go_region
      have T2 := (four_put (v0 := .string ⟨#[]⟩) (v1 := .string ⟨#[]⟩) (v2 := .string ⟨#[]⟩) (v3 := .slice none 0 0) K1.out.2).keep (Below.refl _ _).drew
      have BZ := (Below.put4 (v0 := .string ⟨#[]⟩) (v1 := .string ⟨#[]⟩) (v2 := .string ⟨#[]⟩) (v3 := .slice none 0 0) K1.out.1 (Nat.le_refl _)).drew
      unfold put4 at T2
      go_wp2_with fail
      exact bodyPost_ret (v := .tuple #[.agg #[.string ⟨#[]⟩, .string ⟨#[]⟩, .string ⟨#[]⟩, .slice none 0 0], .iface 230 (.pointer (some E.u))]) (by simp [results, Tryz.results42, go_sem, T2.c0, T2.c1, T2.c2, T2.c3]) rfl ⟨by rw [HE.out]; exact QIn.bad (by decide) rfl, BZ⟩
    | true =>
      have HF : Hid (firstO d = some (ln, r.take (r.length - 2))) := HFY.out hok
      have CT := fun X => mtrim r X (by omega) hok
      have HCT : Hid (∀ X, Calls Tryz.prog 84 #[.string (hmk r), .string ⟨#[13, 10]⟩] X fun e w' => e = .returned (.string (hmk (r.take (r.length - 2)))) ∧ w' = X) := CT
      have HSF : Hid (¬ r = [13, 10] → ∀ X, Calls Tryz.prog 82 #[.string (hmk r), .string ⟨#[13, 10, 13, 10]⟩] X fun e w' => e = .returned (.bool true) ∧ w' = X) := fun h1 X => by
        have := msuffix (hmk r) X (by rw [hmk_size]; omega)
        rw [hmk_list, ← okRest_by h1, hok] at this
        exact this
      have HLI : Hid ((r = [13, 10] → ((hmk r).toList == [13, 10]) = true) ∧ (¬ r = [13, 10] → ((hmk r).toList == [13, 10]) = false)) := ⟨fun h => lit_is (by rw [hmk_list]; exact h), fun h => lit_not (by rw [hmk_list]; exact h)⟩
      clear HFY HFN hok CT
      generalize r.take (r.length - 2) = rest at *
      generalize hmk r = rt at *
      go_enter Tryz.func42, Tryz.ntmps42
      go_wp2_with fail
      rw [← HW.out]
      refine C.mono ?_
      rintro e w1 ⟨rfl, hb1⟩
      have K1 : Hid (Below w.heap.size w w1 ∧ Four w1 w.heap.size (.string ⟨#[]⟩) (.string ⟨#[]⟩) (.string ⟨#[]⟩) (.slice none 0 0)) := ⟨K0.out.1.trans (hb1.mono K0.out.1.size), K0.out.2.keep hb1⟩
      have CT := HCT.out w1
      clear C hb1 K0 HW
      go_upto_region 2 with fail
      go_cut [29] from 19 to 29 (fun s29 wx => s29 = .bool false ∧ wx = w1)
      case first =>
        by_cases h1 : r = [13, 10]
        · have d1 := HLI.out.1 h1
          clear HLI HSF h1
          go_wp2_with fail
          go_meet
          exact ⟨rfl, rfl⟩
        · have d1 := HLI.out.2 h1
          have C2 := HSF.out h1 w1
          clear HLI HSF h1
          go_wp2_with fail
          refine C2.mono ?_
          rintro e w2 ⟨rfl, hw⟩
          obtain rfl := hw.symm
          clear hw C2
          go_wp2_with fail
          go_meet
          exact ⟨rfl, rfl⟩
      case rest =>
      obtain ⟨rfl, hwx⟩ := hcut
      obtain rfl := hwx.symm
      clear hwx HLI HSF HCT
      generalize hmk rest = rst at HRR
      go_wp2_with fail
      refine CT.mono ?_
      rintro e w2 ⟨rfl, hw⟩
      obtain rfl := hw.symm
      clear hw CT
      have C2 := implRead_any (hmk rest) w1 (HS.out w1 K1.out.1).1 (HS.out w1 K1.out.1).2
      go_wp2_with fail
      refine C2.mono ?_
      rintro e w2 ⟨⟨v, rfl, ho⟩, hb2⟩
      obtain ⟨a6, c6, rfl, hi6⟩ := ho.at
      have hcap6 := (own_in3 ho).2.2
      obtain ⟨H, hH⟩ : ∃ H, readHL (hmk rest) = H := ⟨_, rfl⟩
      obtain ⟨hc, hhc⟩ : ∃ hc, readHC (hmk rest) = hc := ⟨_, rfl⟩
      have HHC : Hid (readHC (hmk rest) = hc ∧ readHL (hmk rest) = H) := ⟨hhc, hH⟩
      have hcodes := readHC_codes (hmk rest)
      rw [hhc] at hcodes
      rw [hH] at ho hi6 hcap6 ⊢
      rw [hhc] at ⊢
      obtain ⟨V2, hV2⟩ : ∃ V, V = w2.alloc (.cells #[.int .i64 hc, .slice a6 H.length c6] 84) := ⟨_, rfl⟩
      have HV2 : Hid (V2 = w2.alloc (.cells #[.int .i64 hc, .slice a6 H.length c6] 84)) := hV2
      have aV : Below w2.heap.size w2 V2 := by rw [hV2]; exact (Below.refl _ _).alloc (Nat.le_refl _) _
      have tV : Two V2 w2.heap.size (.int .i64 hc) (.slice a6 H.length c6) := by rw [hV2]; exact Two.new _ _ _ _
      have b2 := K1.out.1.trans (hb2.mono K1.out.1.size)
      have K2 : Hid (Below w.heap.size w V2 ∧ Four V2 w.heap.size (.string ⟨#[]⟩) (.string ⟨#[]⟩) (.string ⟨#[]⟩) (.slice none 0 0) ∧ Two V2 w2.heap.size (.int .i64 hc) (.slice a6 H.length c6) ∧ HdsIn V2 a6 H) := ⟨b2.trans (aV.mono b2.size), (K1.out.2.keep hb2).keep aV, tV, hi6.keep aV⟩
      have C3 := headError_any E hc V2 (HE0.out V2 K2.out.1) hcodes
      clear C2 hb2 K1 ho hi6 aV tV b2 hV2 hH hhc
      obtain ⟨t0, t1, _, _⟩ := K2.out.2.2.1
      rw [HV2.out] at t0 t1
      by_cases h0 : hc = 0
      · subst h0
        rw [errV0] at C3
        have HH0 : Hid (headsC H = 0) := by
          have := read_okH HHC.out.1
          rw [HHC.out.2] at this
          exact this
        obtain ⟨h20, hsz⟩ := heads_sizes HH0.out
        clear hsz hcodes
        go_wp2_with fail
        rw [← HV2.out]
        refine C3.mono ?_
        rintro e w3 ⟨rfl, hw⟩
        obtain rfl := hw.symm
        clear hw C3 t0 t1 HV2
        generalize w2.heap.size = B6 at *
        try clear w2
        have C4 := msplit (hmk ln) V2 (HS.out V2 K2.out.1).2 (by rw [hmk_size]; omega)
        rw [hmk_list] at C4
        obtain ⟨ws, hws⟩ : ∃ ws, cutG 32 [] ln = ws := ⟨_, rfl⟩
        have HWS : Hid (cutG 32 [] ln = ws) := hws
        have hcl := cutG_len 32 ln []
        have hsum := cutG_sum 32 ln []
        rw [hws] at C4 hcl hsum
        clear hws
        go_wp2_with fail
        refine C4.mono ?_
        rintro e w3 ⟨⟨v7, rfl, ho7⟩, hb3⟩
        obtain ⟨a7, c7, rfl, _⟩ := ho7.shape
        rw [List.length_map] at ho7 ⊢
        have K3 : Hid (Below w.heap.size w w3 ∧ Four w3 w.heap.size (.string ⟨#[]⟩) (.string ⟨#[]⟩) (.string ⟨#[]⟩) (.slice none 0 0) ∧ Two w3 B6 (.int .i64 0) (.slice a6 H.length c6) ∧ HdsIn w3 a6 H ∧ OwnS w3 0 (.slice a7 ws.length c7) (ws.map hmk)) := ⟨K2.out.1.trans (hb3.mono K2.out.1.size), K2.out.2.1.keep hb3, K2.out.2.2.1.keep hb3, K2.out.2.2.2.keep hb3, ho7.lower (Nat.zero_le _)⟩
        clear C4 hb3 K2 ho7
        try clear V2
        obtain ⟨jh1, jh2, jh3⟩ := joinT_host HH0.out
        have C5 : Calls Tryz.prog 86 #[.slice a6 H.length c6, .string ⟨#[72, 111, 115, 116]⟩] w3 fun e w' => HRes 0 (dropH hostN H) w3.heap.size e w' ∧ Below w3.heap.size w3 w' := by
          have := implDrop_any w3 a6 c6 H hostT (by omega) (HS.out w3 K3.out.1).1 K3.out.2.2.2.1
          rw [jh2, jh3] at this
          exact this
        have HJN : Hid (∀ X, Below w.heap.size w X → HdsIn X a6 H → Calls Tryz.prog 61 #[.slice a6 H.length c6, .string ⟨#[72, 111, 115, 116]⟩] X fun e w' => e = .returned (.agg #[.int .i64 (joinC H hostT), .string (hmk (hjoinL (valsOf hostN H)))]) ∧ Below X.heap.size X w') := fun X hb hx => by
          have := implJoin_any X a6 c6 H hostT (by omega) hcap6 (HS.out X hb).1 hx
          rw [jh1] at this
          exact this
        obtain ⟨t0, t1, _, _⟩ := K3.out.2.2.1
        have hmf := m_field_heads
        go_wp2_with fail
        refine C5.mono ?_
        rintro e w4 ⟨⟨v8, rfl, ho8⟩, hb4⟩
        obtain ⟨a8, c8, rfl, _⟩ := ho8.at
        have hcap8 := (own_in3 ho8).2.2
        have K4 : Hid (Below w.heap.size w w4 ∧ Four w4 w.heap.size (.string ⟨#[]⟩) (.string ⟨#[]⟩) (.string ⟨#[]⟩) (.slice none 0 0) ∧ Two w4 B6 (.int .i64 0) (.slice a6 H.length c6) ∧ HdsIn w4 a6 H ∧ OwnS w4 0 (.slice a7 ws.length c7) (ws.map hmk) ∧ OwnH w4 w3.heap.size (.slice a8 (dropH hostN H).length c8) (dropH hostN H) ∧ w.heap.size < w3.heap.size) := ⟨K3.out.1.trans (hb4.mono K3.out.1.size), K3.out.2.1.keep hb4, K3.out.2.2.1.keep hb4, K3.out.2.2.2.1.keep hb4, K3.out.2.2.2.2.below hb4, ho8, K3.out.2.1.lt⟩
        clear C5 hb4 K3 ho8 t0 t1 jh1 jh2 jh3
        generalize w3.heap.size = B8 at *
        try clear w3
        have HDL : Hid ((hostOk H = true → valsOf hostN H ≠ [] ∧ (dropH hostN H).length + 1 = H.length) ∧ (hostOk H = false → (dropH hostN H).length + 1 ≠ H.length)) := ⟨words_host, words_host_not⟩
        have hdl := dropH_len hostN H
        have HBAD : Hid ((wordsOk ws && hostOk H) = false → R = (5, rq0)) := fun h => by rw [HRR.out]; exact readQ_words H8.out HF.out HHC.out.1 (by rw [HWS.out, HHC.out.2]; exact h)
        have HGOOD : Hid ((wordsOk ws && hostOk H) = true → (rqC (reqOf ws H) = 0 → R = (0, reqOf ws H)) ∧ (¬ rqC (reqOf ws H) = 0 → R = (rqC (reqOf ws H), rq0))) := fun h => by
          refine ⟨fun hq => ?_, fun hq => ?_⟩
          · rw [HRR.out, readQ_ok H8.out HF.out HHC.out.1 (by rw [HWS.out, HHC.out.2]; exact h) (by rw [HWS.out, HHC.out.2]; exact hq), HWS.out, HHC.out.2]
          · rw [HRR.out, readQ_fault H8.out HF.out HHC.out.1 (by rw [HWS.out, HHC.out.2]; exact h) (by rw [HWS.out, HHC.out.2]; exact hq), HWS.out, HHC.out.2]
        clear HRR HF H8 HWS HHC h8
        obtain ⟨t0, t1, _, _⟩ := K4.out.2.2.1
        by_cases hl3 : ws.length = 3
        · obtain ⟨x, y, z, rfl, hwk⟩ := wordsOk_at hl3
          obtain ⟨g7, c7', e7⟩ := K4.out.2.2.2.2.1.isS (by simp)
          simp only [List.length_map, List.length_cons, List.length_nil, Nat.zero_add, Value.slice.injEq] at e7
          obtain ⟨rfl, _, rfl⟩ := e7
          have x0 : w4.cell? ⟨g7, 0, none⟩ = some (.string (hmk x)) := K4.out.2.2.2.2.1.cellAt 0 (hmk x) rfl
          have x1 : w4.cell? ⟨g7, 1, none⟩ = some (.string (hmk y)) := K4.out.2.2.2.2.1.cellAt 1 (hmk y) rfl
          have x2 : w4.cell? ⟨g7, 2, none⟩ = some (.string (hmk z)) := K4.out.2.2.2.2.1.cellAt 2 (hmk z) rfl
          have HX01 : Hid (∀ X, Below w4.heap.size w4 X → X.cell? ⟨g7, 0, none⟩ = some (.string (hmk x)) ∧ X.cell? ⟨g7, 1, none⟩ = some (.string (hmk y))) := fun X hb => ⟨f_keep hb x0, f_keep hb x1⟩
          simp only [List.length_cons, List.length_nil, Nat.zero_add, Nat.reduceAdd]
          have d3 : (((3 : Nat) : Int) == 3) = true := rfl
          have d3n : (((3 : Nat) : Int) != 3) = false := rfl
          have d3m : ((3 : Int) != 3) = false := rfl
          have hyl : (hmk y).size ≤ 10100 := by
            simp only [sumL, List.map_cons, List.map_nil, List.sum_cons, List.sum_nil, List.length_nil] at hsum
            rw [hmk_size]
            omega
          by_cases hz : z = verL
          · have dz : ((hmk z).toList == [72, 84, 84, 80, 47, 49, 46, 49]) = true := lit_is (by rw [hmk_list, hz]; rfl)
            rw [decide_eq_true hz] at hwk
            cases ho : hostOk H with
            | false =>
              have hne2 := HDL.out.2 ho
              have HE : Hid (R = (5, rq0)) := HBAD.out (by rw [ho, Bool.and_false])
              have dl : ((H.length : Int) - ((dropH hostN H).length : Int) == 1) = false := int_ne_beq (by omega)
              have dln : ((H.length : Int) - ((dropH hostN H).length : Int) != 1) = true := by rw [bne, dl]; rfl
              clear HBAD HGOOD hwk HDL hl3 hne2 ho HJN HX01
              generalize hmk z = zt at *
              obtain ⟨r0, r1, r2, r3, rf, _⟩ := K4.out.2.1
              have rf0 := rf 0
              have rf1 := rf 1
              have rf2 := rf 2
              have rf3 := rf 3
              clear rf
              have gU := (HE0.out w4 K4.out.1).gU
              go_wp2_with fail
              go_region
              have T2 := (four_put (v0 := .string ⟨#[]⟩) (v1 := .string ⟨#[]⟩) (v2 := .string ⟨#[]⟩) (v3 := .slice none 0 0) K4.out.2.1).keep (Below.refl _ _).drew
              have BZ := (Below.put4 (v0 := .string ⟨#[]⟩) (v1 := .string ⟨#[]⟩) (v2 := .string ⟨#[]⟩) (v3 := .slice none 0 0) K4.out.1 (Nat.le_refl _)).drew
              unfold put4 at T2
              go_wp2_with fail
              exact bodyPost_ret (v := .tuple #[.agg #[.string ⟨#[]⟩, .string ⟨#[]⟩, .string ⟨#[]⟩, .slice none 0 0], .iface 230 (.pointer (some E.u))]) (by simp [results, Tryz.results42, go_sem, T2.c0, T2.c1, T2.c2, T2.c3]) rfl ⟨by rw [HE.out]; exact QIn.bad (by decide) rfl, BZ⟩
            | true =>
              have hne2 := (HDL.out.1 ho).2
              obtain ⟨g1, g2⟩ := HGOOD.out (by rw [hwk, ho]; rfl)
              have HG : Hid ((rqC (reqOf [x, y, z] H) = 0 → R = (0, reqOf [x, y, z] H)) ∧ (¬ rqC (reqOf [x, y, z] H) = 0 → R = (rqC (reqOf [x, y, z] H), rq0))) := ⟨g1, g2⟩
              have dl : ((H.length : Int) - ((dropH hostN H).length : Int) == 1) = true := by rw [beq_iff_eq]; omega
              have dln : ((H.length : Int) - ((dropH hostN H).length : Int) != 1) = false := by rw [bne, dl]; rfl
              have HRF : Hid (∀ X, Below w.heap.size w X → HdsIn X a8 (dropH hostN H) → Calls Tryz.prog 39 #[.agg #[.string (hmk x), .string (hmk (hjoinL (valsOf hostN H))), .string (hmk y), .slice a8 (dropH hostN H).length c8]] X fun e w' => e = .returned (errV E (rqC (reqOf [x, y, z] H))) ∧ Below X.heap.size X w') := fun X hb hx => implReqE_any E X (hmk x) _ (hmk y) a8 c8 (dropH hostN H) (by omega) hcap8 (by omega) (HS.out X hb).1 (HE0.out X hb) hx
              have hqv : reqOf [x, y, z] H = ⟨hmk x, hmk (hjoinL (valsOf hostN H)), hmk y, dropH hostN H⟩ := rfl
              obtain ⟨cq, hcq⟩ : ∃ cq, rqC (reqOf [x, y, z] H) = cq := ⟨_, rfl⟩
              obtain ⟨rq, hrq⟩ : ∃ rq, reqOf [x, y, z] H = rq := ⟨_, rfl⟩
              rw [hcq] at HG HRF
              rw [hrq] at HG hqv
              have HRQ : Hid (rq = ⟨hmk x, hmk (hjoinL (valsOf hostN H)), hmk y, dropH hostN H⟩) := hqv
              have C6 := HJN.out w4 K4.out.1 K4.out.2.2.2.1
              obtain ⟨dL, hdL⟩ : ∃ dL, dropH hostN H = dL := ⟨_, rfl⟩
              rw [hdL] at HRF HRQ K4 dl dln hdl
              rw [hdL]
              clear HBAD HGOOD hwk HDL hl3 hne2 ho g1 g2 hcq hrq hqv hdL HJN hcap8 hyl
              generalize hmk z = zt at *
              generalize joinC H hostT = jc at *
              generalize hmk (hjoinL (valsOf hostN H)) = ht at *
              obtain ⟨dn, hdn⟩ : ∃ dn, dL.length = dn := ⟨_, rfl⟩
              rw [hdn] at HRF K4 dl dln hdl
              rw [hdn]
              clear hdn
              generalize hmk x = xt at *
              generalize hmk y = yt at *
              have hft := f_field_text
              go_wp2_with fail
              refine C6.mono ?_
              rintro e w5 ⟨rfl, hb5⟩
              have K5 : Hid (Below w.heap.size w w5 ∧ Four w5 w.heap.size (.string ⟨#[]⟩) (.string ⟨#[]⟩) (.string ⟨#[]⟩) (.slice none 0 0) ∧ OwnH w5 B8 (.slice a8 dn c8) dL ∧ w.heap.size < B8) := ⟨K4.out.1.trans (hb5.mono K4.out.1.size), K4.out.2.1.keep hb5, K4.out.2.2.2.2.2.1.below hb5, K4.out.2.2.2.2.2.2⟩
              obtain ⟨p0, p1⟩ := HX01.out w5 hb5
              clear C6 hb5 K4 t0 t1 x0 x1 x2 HX01 dz dl dln hmf
              try clear w4
              have y0 : ∀ o : Obj, (w5.alloc o).cell? ⟨g7, 0, none⟩ = some (.string xt) := fun o => f_keepA o p0
              have y1 : ∀ o : Obj, (w5.alloc o).cell? ⟨g7, 1, none⟩ = some (.string yt) := fun o => f_keepA o p1
              go_wp2_with fail
              go_region
              obtain ⟨W6, hW6⟩ : ∃ W, W = (w5.alloc (.cells #[.string xt, .string ht, .string yt, .slice a8 dn c8] 26)).drew := ⟨_, rfl⟩
              have HW6 : Hid (W6 = (w5.alloc (.cells #[.string xt, .string ht, .string yt, .slice a8 dn c8] 26)).drew) := hW6
              have a6' : Below w5.heap.size w5 W6 := by rw [hW6]; exact ((Below.refl _ _).alloc (Nat.le_refl _) _).drew
              have f6 : Four W6 w5.heap.size (.string xt) (.string ht) (.string yt) (.slice a8 dn c8) := by rw [hW6]; exact (Four.new _ _ _ _ _ _).keep (Below.refl _ _).drew
              have B0 : Hid (RQS w xt ht yt a8 dn c8 B8 dL w5.heap.size W6.drew) := RQS.keep ⟨K5.out.1.trans (a6'.mono K5.out.1.size), f6, K5.out.2.2.1.below a6', K5.out.2.2.2, K5.out.2.1.lt, ⟨_, _, _, _, K5.out.2.1.keep a6'⟩⟩ (Below.refl _ _).drew
              have KS : Hid (RQS w xt ht yt a8 dn c8 B8 dL w5.heap.size W6) := ⟨K5.out.1.trans (a6'.mono K5.out.1.size), f6, K5.out.2.2.1.below a6', K5.out.2.2.2, K5.out.2.1.lt, ⟨_, _, _, _, K5.out.2.1.keep a6'⟩⟩
              have HQ4 := f6
              rw [hW6] at HQ4
              obtain ⟨q0, q1, q2, q3, _, _⟩ := HQ4
              have HKS : Hid (∀ X, RQS w xt ht yt a8 dn c8 B8 dL w5.heap.size X → X.cell? ⟨w5.heap.size, 0, none⟩ = some (.string xt) ∧ X.cell? ⟨w5.heap.size, 1, none⟩ = some (.string ht) ∧ X.cell? ⟨w5.heap.size, 2, none⟩ = some (.string yt) ∧ X.cell? ⟨w5.heap.size, 3, none⟩ = some (.slice a8 dn c8)) := fun X h => ⟨h.four.c0, h.four.c1, h.four.c2, h.four.c3⟩
              have HPUT : Hid (∀ X, RQS w xt ht yt a8 dn c8 B8 dL w5.heap.size X → RQS w xt ht yt a8 dn c8 B8 dL w5.heap.size (put4 X w.heap.size (.string xt) (.string ht) (.string yt) (.slice a8 dn c8)) ∧ Four (put4 X w.heap.size (.string xt) (.string ht) (.string yt) (.slice a8 dn c8)) w.heap.size (.string xt) (.string ht) (.string yt) (.slice a8 dn c8)) := fun X h => h.put _ _ _ _
              have HRE : Hid (∀ X, RQS w xt ht yt a8 dn c8 B8 dL w5.heap.size X → Calls Tryz.prog 39 #[.agg #[.string xt, .string ht, .string yt, .slice a8 dn c8]] X fun e w' => e = .returned (errV E cq) ∧ Below X.heap.size X w') := fun X h => HRF.out X h.b (own_in h.own).2
              have HRC : Hid (∀ X, RQS w xt ht yt a8 dn c8 B8 dL w5.heap.size X → ∃ u0 u1 u2 u3, Four X w.heap.size u0 u1 u2 u3) := fun X h => h.res
              obtain ⟨ev, hev⟩ : ∃ ev, errV E cq = ev := ⟨_, rfl⟩
              have HEV : Hid (errV E cq = ev) := hev
              rw [hev] at HRE
              clear K5 y0 y1 p0 p1 hW6 a6' f6 HRF hev
              rw [← HW6.out] at q0 q1 q2 q3 ⊢
              clear HW6
              generalize w5.heap.size = B12 at *
              try clear w5
              have B0 : Hid (RQS w xt ht yt a8 dn c8 B8 dL B12 W6.drew) := KS.out.keep (Below.refl _ _).drew
              obtain ⟨u0, u1, u2, u3, hu⟩ := HRC.out W6 KS.out
              obtain ⟨s0, s1, s2, s3, sf, _⟩ := hu
              have sf0 := sf 0
              have sf1 := sf 1
              have sf2 := sf 2
              have sf3 := sf 3
              clear sf KS
              go_wp2_with fail
              go_region_held3 (fun X => X.cell? ⟨B12, 0, none⟩ = some (.string xt) ∧ X.cell? ⟨B12, 1, none⟩ = some (.string ht) ∧ X.cell? ⟨B12, 2, none⟩ = some (.string yt) ∧ X.cell? ⟨B12, 3, none⟩ = some (.slice a8 dn c8))
                (first | exact HKS.out _ (HPUT.out _ BA.out).1 | exact HKS.out _ (HPUT.out _ B0.out).1 | exact HKS.out _ BA.out | exact HKS.out _ B0.out)
                (first
                | (go_at_call 39; (first | refine (HRE.out _ B0.out).mono ?_ | refine (HRE.out _ (HPUT.out _ B0.out).1).mono ?_); rintro e wa ⟨rfl, hba⟩; (first | have BA : Hid (RQS w xt ht yt a8 dn c8 B8 dL B12 wa) := B0.out.keep hba | have BA : Hid (RQS w xt ht yt a8 dn c8 B8 dL B12 wa) := (HPUT.out _ B0.out).1.keep hba); (try have FA : Hid (Four wa w.heap.size (.string xt) (.string ht) (.string yt) (.slice a8 dn c8)) := (HPUT.out _ B0.out).2.keep hba); clear hba; obtain ⟨k0, k1, k2, k3, hk⟩ := HRC.out wa BA.out; obtain ⟨n0, n1, n2, n3, nf, _⟩ := hk; have nf0 := nf 0; have nf1 := nf 1; have nf2 := nf 2; have nf3 := nf 3; clear nf))
              go_wp2_with fail
              have HP := HPUT.out _ BA.out
              have T2 := HP.2
              unfold put4 at T2
              refine bodyPost_ret (v := .tuple #[.agg #[.string xt, .string ht, .string yt, .slice a8 dn c8], ev]) (by simp [results, Tryz.results42, go_sem, T2.c0, T2.c1, T2.c2, T2.c3]) rfl ⟨?_, HP.1.b⟩
              by_cases hq : cq = 0
              · rw [HG.out.1 hq, HRQ.out]
                exact ⟨xt, ht, yt, a8, dn, c8, by rw [← HEV.out, hq], fun _ => ⟨rfl, rfl, rfl, HP.1.own.lower (Nat.le_of_lt HP.1.lt8)⟩⟩
              · rw [HG.out.2 hq]
                exact QIn.bad hq HEV.out.symm
          · have dz : ((hmk z).toList == [72, 84, 84, 80, 47, 49, 46, 49]) = false := lit_not (by rw [hmk_list]; exact hz)
            have HE : Hid (R = (5, rq0)) := HBAD.out (by rw [hwk, decide_eq_false hz]; rfl)
            clear HBAD HGOOD hwk hz HDL hl3 HJN HX01
            generalize hmk z = zt at *
            obtain ⟨r0, r1, r2, r3, rf, _⟩ := K4.out.2.1
            have rf0 := rf 0
            have rf1 := rf 1
            have rf2 := rf 2
            have rf3 := rf 3
            clear rf
            have gU := (HE0.out w4 K4.out.1).gU
            go_wp2_with fail
            go_region
            have T2 := (four_put (v0 := .string ⟨#[]⟩) (v1 := .string ⟨#[]⟩) (v2 := .string ⟨#[]⟩) (v3 := .slice none 0 0) K4.out.2.1).keep (Below.refl _ _).drew
            have BZ := (Below.put4 (v0 := .string ⟨#[]⟩) (v1 := .string ⟨#[]⟩) (v2 := .string ⟨#[]⟩) (v3 := .slice none 0 0) K4.out.1 (Nat.le_refl _)).drew
            unfold put4 at T2
            go_wp2_with fail
            exact bodyPost_ret (v := .tuple #[.agg #[.string ⟨#[]⟩, .string ⟨#[]⟩, .string ⟨#[]⟩, .slice none 0 0], .iface 230 (.pointer (some E.u))]) (by simp [results, Tryz.results42, go_sem, T2.c0, T2.c1, T2.c2, T2.c3]) rfl ⟨by rw [HE.out]; exact QIn.bad (by decide) rfl, BZ⟩
        · have d3 : ((ws.length : Int) == 3) = false := int_ne_beq (by omega)
          have d3n : ((ws.length : Int) != 3) = true := by rw [bne, d3]; rfl
          have HE : Hid (R = (5, rq0)) := HBAD.out (by rw [wordsOk_len hl3]; rfl)
          clear HBAD HGOOD hl3 HDL HJN
          obtain ⟨r0, r1, r2, r3, rf, _⟩ := K4.out.2.1
          have rf0 := rf 0
          have rf1 := rf 1
          have rf2 := rf 2
          have rf3 := rf 3
          clear rf
          have gU := (HE0.out w4 K4.out.1).gU
          go_wp2_with fail
          go_region
          have T2 := (four_put (v0 := .string ⟨#[]⟩) (v1 := .string ⟨#[]⟩) (v2 := .string ⟨#[]⟩) (v3 := .slice none 0 0) K4.out.2.1).keep (Below.refl _ _).drew
          have BZ := (Below.put4 (v0 := .string ⟨#[]⟩) (v1 := .string ⟨#[]⟩) (v2 := .string ⟨#[]⟩) (v3 := .slice none 0 0) K4.out.1 (Nat.le_refl _)).drew
          unfold put4 at T2
          go_wp2_with fail
          exact bodyPost_ret (v := .tuple #[.agg #[.string ⟨#[]⟩, .string ⟨#[]⟩, .string ⟨#[]⟩, .slice none 0 0], .iface 230 (.pointer (some E.u))]) (by simp [results, Tryz.results42, go_sem, T2.c0, T2.c1, T2.c2, T2.c3]) rfl ⟨by rw [HE.out]; exact QIn.bad (by decide) rfl, BZ⟩
      · have HE : Hid (R = (hc, rq0)) := by
          show _ = _
          rw [HRR.out, readQ_heads H8.out HF.out (by rw [HHC.out.1]; exact h0), HHC.out.1]
        obtain ⟨ep, hep⟩ := errV_iface E hc h0
        have HEP : Hid (.iface 230 (.pointer (some ep)) = errV E hc) := hep.symm
        rw [hep] at C3
        clear HRR HF H8 HHC hep hcodes
        go_wp2_with fail
        rw [← HV2.out]
        refine C3.mono ?_
        rintro e w3 ⟨rfl, hw⟩
        obtain rfl := hw.symm
        clear hw C3
        obtain ⟨r0, r1, r2, r3, rf, _⟩ := K2.out.2.1
        have rf0 := rf 0
        have rf1 := rf 1
        have rf2 := rf 2
        have rf3 := rf 3
        clear rf
        go_wp2_with fail
        have T2 := four_put (v0 := .string ⟨#[]⟩) (v1 := .string ⟨#[]⟩) (v2 := .string ⟨#[]⟩) (v3 := .slice none 0 0) K2.out.2.1
        have BZ := Below.put4 (v0 := .string ⟨#[]⟩) (v1 := .string ⟨#[]⟩) (v2 := .string ⟨#[]⟩) (v3 := .slice none 0 0) K2.out.1 (Nat.le_refl _)
        unfold put4 at T2
        exact bodyPost_ret (v := .tuple #[.agg #[.string ⟨#[]⟩, .string ⟨#[]⟩, .string ⟨#[]⟩, .slice none 0 0], .iface 230 (.pointer (some ep))]) (by simp [results, Tryz.results42, go_sem, T2.c0, T2.c1, T2.c2, T2.c3]) rfl ⟨by rw [HE.out]; exact QIn.bad h0 HEP.out, BZ⟩
  · have HE : Hid (R = (5, rq0)) := by show _ = _; rw [HRR.out]; exact readQ_none h8 (firstO_no hc)
    have C := mcut_no d W (HS.out W K0.out.1).2 (by omega) hc
    clear HRR HS h8 hc
    generalize hmk d = t at *
    go_enter Tryz.func42, Tryz.ntmps42
    go_wp2_with fail
    rw [← HW.out]
    refine C.mono ?_
    rintro e w1 ⟨rfl, hb1⟩
    have K1 : Hid (Below w.heap.size w w1 ∧ Four w1 w.heap.size (.string ⟨#[]⟩) (.string ⟨#[]⟩) (.string ⟨#[]⟩) (.slice none 0 0)) := ⟨K0.out.1.trans (hb1.mono K0.out.1.size), K0.out.2.keep hb1⟩
    clear C hb1 K0 HW
    obtain ⟨r0, r1, r2, r3, rf, _⟩ := K1.out.2
    have rf0 := rf 0
    have rf1 := rf 1
    have rf2 := rf 2
    have rf3 := rf 3
    clear rf
    have gU := (HE0.out w1 K1.out.1).gU
    go_wp2_with fail
    go_region
    have T2 := (four_put (v0 := .string ⟨#[]⟩) (v1 := .string ⟨#[]⟩) (v2 := .string ⟨#[]⟩) (v3 := .slice none 0 0) K1.out.2).keep (Below.refl _ _).drew
    have BZ := (Below.put4 (v0 := .string ⟨#[]⟩) (v1 := .string ⟨#[]⟩) (v2 := .string ⟨#[]⟩) (v3 := .slice none 0 0) K1.out.1 (Nat.le_refl _)).drew
    unfold put4 at T2
    go_wp2_with fail
    exact bodyPost_ret (v := .tuple #[.agg #[.string ⟨#[]⟩, .string ⟨#[]⟩, .string ⟨#[]⟩, .slice none 0 0], .iface 230 (.pointer (some E.u))]) (by simp [results, Tryz.results42, go_sem, T2.c0, T2.c1, T2.c2, T2.c3]) rfl ⟨by rw [HE.out]; exact QIn.bad (by decide) rfl, BZ⟩
end Go.Proofs.YtonnggelpjjmmaaGreatDoor
/-
  What ReadRequest answers.
-/
namespace Go.Proofs.YtonnggelpjjmmaaGreatDoor
open Go.ChangeShapes Go.WideShapes Go.ChangeAt Go.RowKit
theorem readQ_codes (d : List UInt8) : (readQ d).1 = 0 ∨ (readQ d).1 = 2 ∨ (readQ d).1 = 3 ∨ (readQ d).1 = 5 ∨ (readQ d).1 = 6 := by
  unfold readQ
  split
  · simp
  · split
    · simp
    · rename_i x _
      have h1 := readHC_codes (hmk x.2)
      split
      · split
        · have h2 := reqC_codes (reqOf (cutG 32 [] x.1) (readHL (hmk x.2))).m (reqOf (cutG 32 [] x.1) (readHL (hmk x.2))).h (reqOf (cutG 32 [] x.1) (readHL (hmk x.2))).p (reqOf (cutG 32 [] x.1) (readHL (hmk x.2))).l
          split
          · simp
          · show rqC _ = 0 ∨ rqC _ = 2 ∨ rqC _ = 3 ∨ rqC _ = 5 ∨ rqC _ = 6
            unfold rqC
            omega
        · simp
      · show readHC _ = 0 ∨ readHC _ = 2 ∨ readHC _ = 3 ∨ readHC _ = 5 ∨ readHC _ = 6
        omega
theorem readQ_zero {d : List UInt8} (h : ¬ (readQ d).1 = 0) : (readQ d).2 = rq0 := by
  unfold readQ at *
  split
  · rfl
  · rename_i h8
    rw [if_neg h8] at h
    split
    · rfl
    · rename_i x hx
      rw [hx] at h
      simp only at h
      split
      · rename_i h1
        rw [if_pos h1] at h
        split
        · rename_i h2
          rw [if_pos h2] at h
          split
          · rename_i h3
            rw [if_pos h3] at h
            exact absurd rfl h
          · rfl
        · rfl
      · rfl
set_option maxRecDepth 100000 in
set_option maxHeartbeats 8000000 in
theorem implReadQ_any (E : Errs) (w : World) (a : Option Addr) (cap : Nat) (d : List UInt8) (hd : d.length ≤ 1048576) (hset : SetIs w) (hE : ErrsIs w E) (hmx : MaxIs w) (hi : BIn w a d) :
    Calls Tryz.prog 15 #[.slice a d.length cap] w fun e w' => QGot (readQ d).1 (readQ d).2 w.heap.size e w' ∧ Below w.heap.size w w' := by
  obtain ⟨W, hW⟩ : ∃ W, W = w.alloc (.cells #[.int .i64 0, .string ⟨#[]⟩, .string ⟨#[]⟩, .string ⟨#[]⟩, .slice none 0 0] 38) := ⟨_, rfl⟩
  have HW : Hid (W = w.alloc (.cells #[.int .i64 0, .string ⟨#[]⟩, .string ⟨#[]⟩, .string ⟨#[]⟩, .slice none 0 0] 38)) := hW
  have bW : Below w.heap.size w W := by rw [hW]; exact (Below.refl _ _).alloc (Nat.le_refl _) _
  have f0 : Five W w.heap.size (.int .i64 0) (.string ⟨#[]⟩) (.string ⟨#[]⟩) (.string ⟨#[]⟩) (.slice none 0 0) := by rw [hW]; exact Five.new _ _ _ _ _ _ _
  have hcv : (convert 22 9 (.slice a d.length cap)).run Tryz.prog W = .ok (.string (hmk d)) W := bytes_text cap (hi.keep bW)
  have K0 : Hid (Below w.heap.size w W ∧ Five W w.heap.size (.int .i64 0) (.string ⟨#[]⟩) (.string ⟨#[]⟩) (.string ⟨#[]⟩) (.slice none 0 0)) := ⟨bW, f0⟩
  have HE0 : Hid (∀ X, Below w.heap.size w X → ErrsIs X E) := fun X hb => hE.below hb
  have HIN : Hid (¬ 8000 < d.length → Calls Tryz.prog 42 #[.string (hmk d)] W fun e w' => QIn E (readQ d).1 (readQ d).2 W.heap.size e w' ∧ Below W.heap.size W w') := fun h8 => implReqIn_any E W d h8 (hset.below bW) (hE.below bW) (hmx.below bW)
  have hcodes := readQ_codes d
  have HZ : Hid (¬ (readQ d).1 = 0 → (readQ d).2 = rq0) := readQ_zero
  have HLO : Hid (8000 < d.length → readQ d = (2, rq0)) := readQ_long
  obtain ⟨R, hR⟩ : ∃ R, R = readQ d := ⟨_, rfl⟩
  rw [← hR] at hcodes HZ HIN HLO ⊢
  clear hR bW f0 hi hset hE hmx
  rw [hW] at hcv
  clear hW
  by_cases h8 : 8000 < d.length
  · have HE : Hid (R = (2, rq0)) := HLO.out h8
    have g8 : (8000 : Int) < d.length := by omega
    clear hcv K0 HZ HIN HLO hcodes
    generalize d.length = n at *
    go_enter Tryz.func15, Tryz.ntmps15
    go_wp2_with fail
    exact bodyPost_ret (v := .agg #[.int .i64 2, .string ⟨#[]⟩, .string ⟨#[]⟩, .string ⟨#[]⟩, .slice none 0 0]) (by simp [results, Tryz.results15, go_sem]) rfl ⟨by rw [HE.out]; exact QGot.zero _ _ _, (Below.refl _ _).alloc (Nat.le_refl _) _⟩
  · have g8 : ¬ (8000 : Int) < d.length := by omega
    have C := HIN.out h8
    clear HIN HLO h8
    generalize hmk d = t at *
    generalize d.length = n at *
    go_enter Tryz.func15, Tryz.ntmps15
    go_wp2_with fail
    rw [← HW.out]
    refine C.mono ?_
    rintro e w1 ⟨⟨m, h, p, a1, n1, k1, rfl, hq⟩, hb1⟩
    have HQ : Hid (R.1 = 0 → R.2.m = m ∧ R.2.h = h ∧ R.2.p = p ∧ OwnH w1 W.heap.size (.slice a1 n1 k1) R.2.l) := hq
    obtain ⟨V, hV⟩ : ∃ V, V = w1.alloc (.cells #[.string m, .string h, .string p, .slice a1 n1 k1] 26) := ⟨_, rfl⟩
    have HV : Hid (V = w1.alloc (.cells #[.string m, .string h, .string p, .slice a1 n1 k1] 26)) := hV
    have aV : Below w1.heap.size w1 V := by rw [hV]; exact (Below.refl _ _).alloc (Nat.le_refl _) _
    have fV : Four V w1.heap.size (.string m) (.string h) (.string p) (.slice a1 n1 k1) := by rw [hV]; exact Four.new _ _ _ _ _ _
    have b1 := K0.out.1.trans (hb1.mono K0.out.1.size)
    have K1 : Hid (Below w.heap.size w V ∧ Five V w.heap.size (.int .i64 0) (.string ⟨#[]⟩) (.string ⟨#[]⟩) (.string ⟨#[]⟩) (.slice none 0 0) ∧ Four V w1.heap.size (.string m) (.string h) (.string p) (.slice a1 n1 k1) ∧ Below w1.heap.size w1 V ∧ w.heap.size < W.heap.size) := ⟨b1.trans (aV.mono b1.size), (K0.out.2.keep hb1).keep aV, fV, aV, K0.out.2.lt⟩
    clear C hb1 K0 HW hcv hq hV aV fV b1
    obtain ⟨r0, r1, r2, r3, r4, rf, _⟩ := K1.out.2.1
    have rf0 := rf 0
    have rf1 := rf 1
    have rf2 := rf 2
    have rf3 := rf 3
    have rf4 := rf 4
    clear rf
    obtain ⟨c, hc⟩ : ∃ c, R.1 = c := ⟨_, rfl⟩
    have HC : Hid (R.1 = c) := hc
    rw [hc] at HZ HQ hcodes ⊢
    clear hc
    by_cases h0 : c = 0
    · subst h0
      rw [errV0]
      obtain ⟨e1, e2, e3, e4⟩ := HQ.out rfl
      have HRE : Hid (R.1 = 0 ∧ R.2.m = m ∧ R.2.h = h ∧ R.2.p = p ∧ OwnH V W.heap.size (.slice a1 n1 k1) R.2.l) := ⟨HC.out, e1, e2, e3, e4.below K1.out.2.2.2.1⟩
      obtain ⟨q0, q1, q2, q3, _, _⟩ := K1.out.2.2.1
      rw [HV.out] at r0 r1 r2 r3 r4 rf0 rf1 rf2 rf3 rf4 q0 q1 q2 q3
      clear HZ HQ HC hcodes e1 e2 e3 e4
      go_wp2_with fail
      rw [← HV.out]
      have T2 := five_put (v0 := .int .i64 0) (v1 := .string m) (v2 := .string h) (v3 := .string p) (v4 := .slice a1 n1 k1) K1.out.2.1
      have HO := ownH_put5 (v0 := .int .i64 0) (v1 := .string m) (v2 := .string h) (v3 := .string p) (v4 := .slice a1 n1 k1) HRE.out.2.2.2.2 K1.out.2.2.2.2
      unfold put5 at T2
      exact bodyPost_ret (v := .agg #[.int .i64 0, .string m, .string h, .string p, .slice a1 n1 k1]) (by simp [results, Tryz.results15, go_sem, T2.c0, T2.c1, T2.c2, T2.c3, T2.c4]) rfl ⟨⟨_, by rw [HRE.out.1, HRE.out.2.1, HRE.out.2.2.1, HRE.out.2.2.2.1], HO.lower (Nat.le_of_lt K1.out.2.2.2.2)⟩, Below.put5 K1.out.1 (Nat.le_refl _)⟩
    · have C2 := codeOf_any E c V (HE0.out V K1.out.1) hcodes
      have HRE : Hid (R = (c, rq0)) := by
        show _ = _
        rw [← HC.out, ← HZ.out h0]
      obtain ⟨ep, hep⟩ := errV_iface E c h0
      rw [hep] at C2 ⊢
      rw [HV.out] at r0 r1 r2 r3 r4 rf0 rf1 rf2 rf3 rf4
      clear HZ HQ HC hcodes hep
      go_wp2_with fail
      rw [← HV.out]
      refine C2.mono ?_
      rintro e w2 ⟨rfl, hw⟩
      obtain rfl := hw.symm
      rw [← HV.out] at r0 r1 r2 r3 r4 rf0 rf1 rf2 rf3 rf4
      clear hw C2 HV
      go_wp2_with fail
      have T2 := five_put (v0 := .int .i64 c) (v1 := .string ⟨#[]⟩) (v2 := .string ⟨#[]⟩) (v3 := .string ⟨#[]⟩) (v4 := .slice none 0 0) K1.out.2.1
      unfold put5 at T2
      exact bodyPost_ret (v := .agg #[.int .i64 c, .string ⟨#[]⟩, .string ⟨#[]⟩, .string ⟨#[]⟩, .slice none 0 0]) (by simp [results, Tryz.results15, go_sem, T2.c0, T2.c1, T2.c2, T2.c3, T2.c4]) rfl ⟨by rw [HRE.out]; exact QGot.zero _ _ _, Below.put5 K1.out.1 (Nat.le_refl _)⟩
end Go.Proofs.YtonnggelpjjmmaaGreatDoor
/-
  What the model's l1Delta answers.
-/
namespace Go.Proofs.YtonnggelpjjmmaaGreatDoor
open Go.ChangeShapes Go.WideShapes Go.ChangeAt Go.RowKit
set_option maxHeartbeats 400000 in
theorem l1Delta_size (s : ByteArray) (w : World) (h : s.size < 1 ∨ 64 < s.size) :
    Calls Tryz.prog 57 #[.string s] w fun e w' => e = .returned (.int .i64 (numD s)) ∧ w' = w := by
  rcases h with h | h
  · rw [numD_no s (okD_short s h)]
    have hh : (s.size : Int) < 1 := by omega
    go_enter Tryz.func57, Tryz.ntmps57
    go_wp2
    go_ret
    exact ⟨rfl, rfl⟩
  · rw [numD_no s (okD_long s h)]
    have hh : (64 : Int) < s.size := by omega
    have h1 : ¬ (s.size : Int) < 1 := by omega
    go_enter Tryz.func57, Tryz.ntmps57
    go_wp2
    go_ret
    exact ⟨rfl, rfl⟩
set_option maxHeartbeats 1000000 in
theorem l1Delta_any (s : ByteArray) (w : World) (h1 : 1 ≤ s.size) (h2 : s.size ≤ 64) :
    Calls Tryz.prog 57 #[.string s] w fun e w' => e = .returned (.int .i64 (numD s)) ∧ w' = w := by
  have g1 : ¬ (s.size : Int) < 1 := by omega
  have g2 : ¬ (64 : Int) < s.size := by omega
  go_enter Tryz.func57, Tryz.ntmps57
  go_wp2
  go_loop [3, 4] (fun n i => ∃ k : Nat, k ≤ s.size ∧ i = .int .i64 k ∧ allD (s.data.toList.take k) = true ∧ n = .int .i64 (valD (s.data.toList.take k))) (fun _ i => s.size - (intOf i).toNat)
  case atStart => exact ⟨0, Nat.zero_le _, rfl, rfl, rfl⟩
  case round =>
    obtain ⟨k, hk, rfl, hall, rfl⟩ := hrel
    have hd := valD_bd _ hall
    by_cases hlt : k < s.size
    · by_cases hdig : digB s[k] = true
      · have hb : 48 ≤ (s[k].toNat : Int) ∧ (s[k].toNat : Int) ≤ 57 := by simpa [digB] using hdig
        obtain ⟨hb1, hb2⟩ := hb
        have HS : Hid (valD (s.data.toList.take (k + 1)) = accD (valD (s.data.toList.take k)) s[k]) := by
          show _ = _
          rw [take_snoc s k hlt, valD_snoc]
        have HA : Hid (allD (s.data.toList.take (k + 1)) = true) := by
          show _ = _
          rw [take_snoc s k hlt, allD_snoc, hall, hdig]; rfl
        have d2 : decide ((s[k].toNat : Int) ≤ 57) = true := by simpa using hb2
        clear hdig hall
        generalize hv : valD (s.data.toList.take k) = n at *
        clear hv
        by_cases hm : n * 10 + ((s[k].toNat : Int) - 48) < 2147483648
        · have HE : Hid (valD (s.data.toList.take (k + 1)) = n * 10 + ((s[k].toNat : Int) - 48)) := by
            show _ = _
            rw [HS.out, accD, if_pos hm]
          go_wp2
          go_round
          case rel => exact ⟨k + 1, by omega, by go_num, HA.out, by rw [HE.out]; rfl⟩
          case measure => simp [intOf]; omega
        · have HE : Hid (valD (s.data.toList.take (k + 1)) = 2147483648) := by
            show _ = _
            rw [HS.out, accD, if_neg hm]
          go_wp2
          go_round
          case rel => exact ⟨k + 1, by omega, by go_num, HA.out, by rw [HE.out]; rfl⟩
          case measure => simp [intOf]; omega
      · have hf : digB s[k] = false := by simpa using hdig
        have HN : Hid (numD s = -1) := numD_no s (okD_not s k hlt hf)
        have hb : ¬ (48 ≤ (s[k].toNat : Int) ∧ (s[k].toNat : Int) ≤ 57) := by simpa [digB] using hdig
        clear hdig hf
        by_cases hb1 : 48 ≤ (s[k].toNat : Int)
        · have hb2 : 57 < (s[k].toNat : Int) := by omega
          have d2 : decide ((s[k].toNat : Int) ≤ 57) = false := by simp; omega
          clear hb hall hd
          go_wp2
          go_ret
          exact ⟨ret_int (by rw [HN.out]), rfl⟩
        · clear hb hall hd
          go_wp2
          go_ret
          exact ⟨ret_int (by rw [HN.out]), rfl⟩
    · have ek : s.data.toList.take k = s.data.toList := List.take_of_length_le (by simp; omega)
      rw [ek] at hall hd ⊢
      have HN : Hid (numD s = valD s.data.toList) := numD_yes s (okD_yes s h1 h2 hall)
      clear ek hall
      go_wp2
      go_ret
      exact ⟨ret_int (by rw [HN.out]), rfl⟩
end Go.Proofs.YtonnggelpjjmmaaGreatDoor
/-
  What DeltaOf's model and DeltaOf itself answer, for any text; the law out of them.
-/
namespace Go.Proofs.YtonnggelpjjmmaaGreatDoor
open Go.ChangeShapes Go.WideShapes Go.ChangeAt Go.RowKit
set_option maxHeartbeats 400000 in
theorem implDelta_size (s : ByteArray) (w : World) (h : s.size < 1 ∨ 64 < s.size) :
    Calls Tryz.prog 128 #[.string s] w fun e w' => e = .returned (.agg #[.int .i64 5, .int .i64 0]) ∧ Below w.heap.size w w' := by
  rcases h with h | h
  · have hh : (s.size : Int) < 1 := by omega
    go_enter Tryz.func128, Tryz.ntmps128
    go_wp2
    exact bodyPost_ret (v := .agg #[.int .i64 5, .int .i64 0]) (by simp [results, Tryz.results128, go_sem]) rfl ⟨rfl, (Below.refl _ _).alloc (Nat.le_refl _) _⟩
  · have hh : (64 : Int) < s.size := by omega
    have h1 : ¬ (s.size : Int) < 1 := by omega
    go_enter Tryz.func128, Tryz.ntmps128
    go_wp2
    exact bodyPost_ret (v := .agg #[.int .i64 5, .int .i64 0]) (by simp [results, Tryz.results128, go_sem]) rfl ⟨rfl, (Below.refl _ _).alloc (Nat.le_refl _) _⟩
def dC (s : ByteArray) : Int := if okD s = true then 0 else 5
def dV (s : ByteArray) : Int := if okD s = true then valD s.data.toList else 0
theorem dC_no {s : ByteArray} (h : okD s = false) : dC s = 5 := by simp [dC, h]
theorem dV_no {s : ByteArray} (h : okD s = false) : dV s = 0 := by simp [dV, h]
theorem dC_yes {s : ByteArray} (h : okD s = true) : dC s = 0 := by simp [dC, h]
theorem dV_yes {s : ByteArray} (h : okD s = true) : dV s = valD s.data.toList := by simp [dV, h]
set_option maxHeartbeats 1000000 in
theorem implDelta_any (s : ByteArray) (w : World) (h1 : 1 ≤ s.size) (h2 : s.size ≤ 64) :
    Calls Tryz.prog 128 #[.string s] w fun e w' => e = .returned (.agg #[.int .i64 (dC s), .int .i64 (dV s)]) ∧ Below w.heap.size w w' := by
  have g1 : ¬ (s.size : Int) < 1 := by omega
  have g2 : ¬ (64 : Int) < s.size := by omega
  go_enter Tryz.func128, Tryz.ntmps128
  go_wp2
  go_loop [3, 16] (fun n i => ∃ k : Nat, k ≤ s.size ∧ i = .int .i64 k ∧ allD (s.data.toList.take k) = true ∧ n = .int .i64 (valD (s.data.toList.take k))) (fun _ i => s.size - (intOf i).toNat)
  case atStart => exact ⟨0, Nat.zero_le _, rfl, rfl, rfl⟩
  case round =>
    obtain ⟨k, hk, rfl, hall, rfl⟩ := hrel
    have hd := valD_bd _ hall
    by_cases hlt : k < s.size
    · by_cases hdig : digB s[k] = true
      · have hb : 48 ≤ (s[k].toNat : Int) ∧ (s[k].toNat : Int) ≤ 57 := by simpa [digB] using hdig
        obtain ⟨hb1, hb2⟩ := hb
        have HS : Hid (valD (s.data.toList.take (k + 1)) = accD (valD (s.data.toList.take k)) s[k]) := by
          show _ = _
          rw [take_snoc s k hlt, valD_snoc]
        have HA : Hid (allD (s.data.toList.take (k + 1)) = true) := by
          show _ = _
          rw [take_snoc s k hlt, allD_snoc, hall, hdig]; rfl
        have d2 : decide ((s[k].toNat : Int) ≤ 57) = true := by simpa using hb2
        clear hdig hall
        generalize hv : valD (s.data.toList.take k) = n at *
        clear hv
        by_cases hm : n * 10 + ((s[k].toNat : Int) - 48) < 2147483648
        · have HE : Hid (valD (s.data.toList.take (k + 1)) = n * 10 + ((s[k].toNat : Int) - 48)) := by
            show _ = _
            rw [HS.out, accD, if_pos hm]
          go_wp2
          go_round
          case rel => exact ⟨k + 1, by omega, by go_num, HA.out, by first | (rw [HE.out]; done) | (rw [HE.out]; congr 1; first | omega | (simp only [Int.min_def]; split <;> omega))⟩
          case measure => simp [intOf]; omega
        · have HE : Hid (valD (s.data.toList.take (k + 1)) = 2147483648) := by
            show _ = _
            rw [HS.out, accD, if_neg hm]
          go_wp2
          go_round
          case rel => exact ⟨k + 1, by omega, by go_num, HA.out, by rw [HE.out]; congr 1; first | (split <;> omega) | omega | (simp only [Int.min_def]; split <;> omega)⟩
          case measure => simp [intOf]; omega
      · have hf : digB s[k] = false := by simpa using hdig
        have ho := okD_not s k hlt hf
        have HO : Hid (okD s = false) := ho
        have hb : ¬ (48 ≤ (s[k].toNat : Int) ∧ (s[k].toNat : Int) ≤ 57) := by simpa [digB] using hdig
        clear hdig hf ho
        by_cases hb1 : 48 ≤ (s[k].toNat : Int)
        · have hb2 : 57 < (s[k].toNat : Int) := by omega
          have d2 : decide ((s[k].toNat : Int) ≤ 57) = false := by simp; omega
          clear hb hall hd
          go_wp2
          exact bodyPost_ret (v := .agg #[.int .i64 5, .int .i64 0]) (by simp [results, Tryz.results128, go_sem]) rfl ⟨by rw [dC_no HO.out, dV_no HO.out], (Below.refl _ _).alloc (Nat.le_refl _) _⟩
        · clear hb hall hd
          go_wp2
          exact bodyPost_ret (v := .agg #[.int .i64 5, .int .i64 0]) (by simp [results, Tryz.results128, go_sem]) rfl ⟨by rw [dC_no HO.out, dV_no HO.out], (Below.refl _ _).alloc (Nat.le_refl _) _⟩
    · have ek : s.data.toList.take k = s.data.toList := List.take_of_length_le (by simp; omega)
      rw [ek] at hall hd ⊢
      have ho := okD_yes s h1 h2 hall
      have HO : Hid (okD s = true) := ho
      clear ek hall ho
      go_wp2
      exact bodyPost_ret (v := .agg #[.int .i64 0, .int .i64 (valD s.data.toList)]) (by simp [results, Tryz.results128, go_sem]) rfl ⟨by rw [dC_yes HO.out, dV_yes HO.out], (Below.refl _ _).alloc (Nat.le_refl _) _⟩
theorem implDelta (s : ByteArray) (w : World) :
    Calls Tryz.prog 128 #[.string s] w fun e w' => e = .returned (.agg #[.int .i64 (dC s), .int .i64 (dV s)]) ∧ Below w.heap.size w w' := by
  by_cases c : s.size < 1 ∨ 64 < s.size
  · have h : okD s = false := by
      rcases c with c | c
      · exact okD_short s c
      · exact okD_long s c
    rw [dC_no h, dV_no h]; exact implDelta_size s w c
  · exact implDelta_any s w (by omega) (by omega)
end Go.Proofs.YtonnggelpjjmmaaGreatDoor
/-
  Bytes copied; results that hold a response.
-/
namespace Go.Proofs.YtonnggelpjjmmaaGreatDoor
open Go.ChangeShapes Go.WideShapes Go.ChangeAt Go.RowKit
theorem OwnB.bown {w : World} {base : Nat} {v : Value} {l : List UInt8} (h : OwnB w base v l) : BOwn w base v l := by
  have h0 := h.own
  obtain ⟨_, h1 | ⟨g, c, cur, rfl, hg, hh, _⟩⟩ := h.own
  · exact absurd h1.1 h.nn
  · refine .inr ⟨g, c, rfl, hg, fun i x hx => ?_, fun o _ => by simp [World.frozen?, hh], (Array.getElem?_eq_some_iff.1 hh).1⟩
    have hi := (List.getElem?_eq_some_iff.1 hx).1
    have := h0.cellAt i (by omega)
    rw [Nat.zero_add, this]
    simp [bytesW, hx]
theorem wpList_append_bs {ops : Array Oper} {rest : List Oper} {o : Oper} {a : Act} {Q : Exit → Act → World → Prop} (w : World) (hgd : o.guard = none) (s x : Operand)
    (ho : o.op = .call { callee := .builtin .append, args := #[s, x], argTypes := #[22, 22] }) (base : Nat) (v : Value) (l m : List UInt8) (n : Nat) (hn : m.length = n) (b off c : Nat)
    (hs : a.eval s = v) (hx : a.eval x = .slice (some ⟨b, off, none⟩) n c) (hown : OwnB w base v l) (hm : BAt w b off m) (hl : l.length + m.length ≤ 1000000) (hbase : base ≤ w.heap.size)
    (h : ∀ v' w', OwnB w' base v' (l ++ m) → Below base w w' → wpList Tryz.prog ops Q rest (a.put o.dst v') w') :
    wpList Tryz.prog ops Q (o :: rest) a w := by
  subst hn
  obtain ⟨i0, hi, hz0, hz1, hz2⟩ := info_parts infoByteB
  refine wpList_append_own _ hgd s x 22 ho base 5 i0 (.int .u8 0) 1 1 Tryz.underlying22 hi hz0 hz1 hz2 rfl (by decide) v l.length (bytesW l) hs hown.own ⟨b, off, none⟩ m.length c (bytesV m) hx (by simp [bytesV]) (bytesV_at hm) (bytesV_one m) ?_ ?_ hbase ?_
  · unfold maxLen; omega
  · omega
  · intro v' w' h1 h2 h3
    have e : bytesW (l ++ m) = bytesW l ++ bytesV m := by simp [bytesW, bytesV]
    exact h v' w' ⟨by rw [e, List.length_append]; exact h1, fun hv => hown.nn (h3.1 hv).1⟩ ((Below.refl base w).grown h2 hbase (fun q hq => own_geB hown.own q hq))
def BCopy (l : List UInt8) (base : Nat) (e : Ending) (w : World) : Prop := ∃ a n k, e = .returned (.slice a n k) ∧ BOwn w base (.slice a n k) l
set_option maxHeartbeats 2000000 in
theorem l1Copy_any (w : World) (b off cap : Nat) (l : List UInt8) (n : Nat) (hn : l.length = n) (hl : l.length ≤ 900000) (h : BAt w b off l) :
    Calls Tryz.prog 58 #[.slice (some ⟨b, off, none⟩) n cap] w fun e w' => BCopy l w.heap.size e w' ∧ Below w.heap.size w w' := by
  have a0 : Below w.heap.size w (w.alloc (.cells #[] 5)) := (Below.refl _ _).alloc (Nat.le_refl _) _
  have HO : Hid (OwnB (w.alloc (.cells #[] 5)) w.heap.size (.slice (some ⟨w.heap.size, 0, none⟩) 0 0) []) := OwnB.made w w.heap.size (Nat.le_refl _) [] (by simp)
  have HA : Hid (BAt (w.alloc (.cells #[] 5)) b off l) := h.keep a0
  have HB : Hid (Below w.heap.size w (w.alloc (.cells #[] 5))) := a0
  clear h a0
  go_enter Tryz.func58, Tryz.ntmps58
  go_wp2_with (at_builtin; refine wpList_append_bs _ rfl (.tmp 3) (.tmp 4) rfl w.heap.size _ [] l n hn b off cap rfl rfl HO.out HA.out (by simp; omega) (by simp) ?_; intro v4 w4 ho4 hb4; have HF : Hid (OwnB w4 w.heap.size v4 l ∧ Below w.heap.size w w4) := ⟨by simpa using ho4, HB.out.trans hb4⟩; clear ho4 hb4)
  go_ret
  have h1 := HF.out.1.bown
  obtain ⟨a, k, e, _⟩ := h1.shape
  exact ⟨⟨a, _, k, by rw [e]; rfl, by rw [← e]; exact h1⟩, HF.out.2⟩
def put3 (w : World) (B : Nat) (v0 v1 v2 : Value) : World := ((w.setCell ⟨B, 0, none⟩ v0).setCell ⟨B, 1, none⟩ v1).setCell ⟨B, 2, none⟩ v2
theorem three_put {w : World} {B : Nat} {u0 u1 u2 v0 v1 v2 : Value} (h : Three w B u0 u1 u2) : Three (put3 w B v0 v1 v2) B v0 v1 v2 := by
  have o : ∀ (X : World) (i j : Nat) (v : Value), i ≠ j → (X.setCell ⟨B, i, none⟩ v).cell? ⟨B, j, none⟩ = X.cell? ⟨B, j, none⟩ := fun X i j v hij => World.cell?_setCell_other _ _ _ _ (off_ne hij)
  unfold put3
  refine ⟨?_, ?_, ?_, fun o => by simp only [World.frozen?_setCell]; exact h.fr o, by simpa using h.lt⟩
  · rw [o _ _ _ _ (by omega), o _ _ _ _ (by omega)]; exact World.cell?_setCell_same _ _ _ h.c0
  · rw [o _ _ _ _ (by omega)]; exact World.cell?_setCell_same _ _ _ (by rw [o _ _ _ _ (by omega)]; exact h.c1)
  · exact World.cell?_setCell_same _ _ _ (by rw [o _ _ _ _ (by omega), o _ _ _ _ (by omega)]; exact h.c2)
theorem Below.put3 {w w' : World} {base B : Nat} {v0 v1 v2 : Value} (h : Below base w w') (hB : base ≤ B) : Below base w (put3 w' B v0 v1 v2) :=
  ((h.setCell hB _).setCell hB _).setCell hB _
theorem ownH_put3 {w : World} {base B : Nat} {v : Value} {l : List Hdr} {v0 v1 v2 : Value} (h : OwnH w base v l) (hB : B < base) : OwnH (put3 w B v0 v1 v2) base v l :=
  ownH_set (ownH_set (ownH_set h hB) hB) hB
theorem bown_set {w : World} {base b o : Nat} {v u : Value} {l : List UInt8} (h : BOwn w base v l) (hb : b < base) : BOwn (w.setCell ⟨b, o, none⟩ u) base v l := by
  rcases h with h | ⟨g, k, e, hg, hm⟩
  · exact .inl h
  · refine .inr ⟨g, k, e, hg, fun i c hc => ?_, fun j hj => by rw [World.frozen?_setCell]; exact hm.free j hj, by simpa using hm.lt⟩
    rw [World.cell?_setCell_other _ _ _ _ (fun e => by have := congrArg Addr.block e; simp only at this; omega)]
    exact hm.at0 i c hc
theorem bown_put3 {w : World} {base B : Nat} {v : Value} {l : List UInt8} {v0 v1 v2 : Value} (h : BOwn w base v l) (hB : B < base) : BOwn (put3 w B v0 v1 v2) base v l :=
  bown_set (bown_set (bown_set h hB) hB) hB
theorem bown_put4 {w : World} {base B : Nat} {v : Value} {l : List UInt8} {v0 v1 v2 v3 : Value} (h : BOwn w base v l) (hB : B < base) : BOwn (put4 w B v0 v1 v2 v3) base v l :=
  bown_set (bown_set (bown_set (bown_set h hB) hB) hB) hB
/-- What a call hands back: a code and a response of its own. -/
def PGot (c : Int) (q : Rp) (base : Nat) (e : Ending) (w : World) : Prop := ∃ a n k b bn bk, e = .returned (.agg #[.int .i64 c, .int .i64 q.s, .slice a n k, .slice b bn bk]) ∧ OwnH w base (.slice a n k) q.l ∧ BOwn w base (.slice b bn bk) q.b
theorem PGot.zero (c : Int) (base : Nat) (w : World) : PGot c rp0 base (.returned (.agg #[.int .i64 c, .int .i64 0, .slice none 0 0, .slice none 0 0])) w := ⟨none, 0, 0, none, 0, 0, rfl, OwnH.nil _ _, .inl ⟨rfl, rfl⟩⟩
/-! ### where the head ends -/
theorem cc_on {d : List UInt8} {k : Nat} (hk : k ≤ ccAt d) (h : k + 3 < d.length) : (ccL.isPrefixOf (d.drop k) = true → ccAt d = k) ∧ (ccL.isPrefixOf (d.drop k) = false → k + 1 ≤ ccAt d) := by
  refine ⟨fun e => patAt_of ccL d k (by omega) e (fun j hj => patAt_not ccL d j (Nat.lt_of_lt_of_le hj hk)), fun e => ?_⟩
  by_cases c : k = ccAt d
  · have := patAt_is ccL d (by unfold ccAt at c; omega)
    unfold ccAt at c
    rw [← c, e] at this
    cases this
  · omega
theorem cc_end {d : List UInt8} {k : Nat} (hk : k ≤ ccAt d) (h : ¬ k + 3 < d.length) : ¬ ccAt d < d.length := fun c => by
  have := (ccAt_room c).1
  omega
theorem cc_slice (t : ByteArray) (k : Nat) (h : k + 3 < t.size) : (ccL.isPrefixOf (t.data.toList.drop k)) = decide ((t.extract k (k + 4)).data.toList = [13, 10, 13, 10]) := by
  rw [hext_mk, hmk_list, show k + 4 - k = 4 from by omega, Bool.eq_iff_iff, List.isPrefixOf_iff_prefix, decide_eq_true_eq]
  have hl : 4 ≤ (t.data.toList.drop k).length := by rw [List.length_drop, hsize_list]; omega
  generalize t.data.toList.drop k = l at *
  constructor
  · rintro ⟨q, rfl⟩
    rfl
  · intro e
    exact ⟨l.drop 4, by rw [show ccL = l.take 4 from e.symm, List.take_append_drop]⟩
end Go.Proofs.YtonnggelpjjmmaaGreatDoor
/-
  What the model's ReadResponse answers.
-/
namespace Go.Proofs.YtonnggelpjjmmaaGreatDoor
open Go.ChangeShapes Go.WideShapes Go.ChangeAt Go.RowKit
theorem lineOk_len {ln : List UInt8} (h : ¬ ln.length = 12) : lineOk ln = false := by simp [lineOk, h]
theorem lineOk_ver {ln : List UInt8} (h : ¬ ln.take 9 = verL ++ [32]) : lineOk ln = false := by simp [lineOk, h]
theorem lineOk_num {ln : List UInt8} (h : okD (hmk (ln.drop 9)) = false) : lineOk ln = false := by simp [lineOk, h]
theorem lineOk_yes {ln : List UInt8} (h1 : ln.length = 12) (h2 : ln.take 9 = verL ++ [32]) (h3 : okD (hmk (ln.drop 9)) = true) : lineOk ln = true := by simp [lineOk, h1, h2, h3]
theorem l1Delta_all (s : ByteArray) (w : World) : Calls Tryz.prog 57 #[.string s] w fun e w' => e = .returned (.int .i64 (numD s)) ∧ w' = w := by
  by_cases c : s.size < 1 ∨ 64 < s.size
  · exact l1Delta_size s w c
  · exact l1Delta_any s w (by omega) (by omega)
theorem lnP_len {d : List UInt8} : (lnP d).length ≤ d.length + 2 ∧ (restP d).length ≤ d.length + 2 := by
  unfold lnP restP headB
  refine ⟨?_, ?_⟩
  · rw [List.length_take]
    simp only [List.length_append, List.length_take, List.length_cons, List.length_nil]
    omega
  · rw [List.length_drop]
    simp only [List.length_append, List.length_take, List.length_cons, List.length_nil]
    omega
/-- What the response that was read is, where the ways meet. -/
def PCut (V : World) (st : Int) (sl : Value) (L : List UInt8) (s : Value) (X : World) : Prop := ∃ B x bn bk, s = .pointer (some ⟨B, 0, none⟩) ∧ Three X B (.int .i64 st) sl (.slice x bn bk) ∧ BOwn X V.heap.size (.slice x bn bk) L ∧ Below V.heap.size V X
theorem PCut.new {V X : World} {st : Int} {sl : Value} {L : List UInt8} {base : Nat} {x : Option Addr} {bn bk : Nat} {t : TypeId} (hb : BOwn X base (.slice x bn bk) L) (h1 : V.heap.size ≤ base) (h2 : Below V.heap.size V X) : PCut V st sl L (.pointer (some ⟨X.heap.size, 0, none⟩)) (X.alloc (.cells #[.int .i64 st, sl, .slice x bn bk] t)) :=
  ⟨X.heap.size, x, bn, bk, rfl, Three.new _ _ _ _ _, (hb.keep ((Below.refl _ _).alloc (Nat.le_refl _) _)).lower h1, h2.alloc h2.size _⟩
theorem PCut.put {V X : World} {st : Int} {sl : Value} {L : List UInt8} {base B : Nat} {x : Option Addr} {bn bk : Nat} {u0 u1 u2 : Value} (h3 : Three X B u0 u1 u2) (hb : BOwn X base (.slice x bn bk) L) (h0 : B < base) (h1 : V.heap.size ≤ B) (h2 : Below V.heap.size V X) : PCut V st sl L (.pointer (some ⟨B, 0, none⟩)) (put3 X B (.int .i64 st) sl (.slice x bn bk)) :=
  ⟨B, x, bn, bk, rfl, three_put h3, (bown_put3 hb h0).lower (by omega), Below.put3 h2 h1⟩
set_option maxRecDepth 100000 in
set_option maxHeartbeats 16000000 in
theorem specReadP_any (w : World) (a : Option Addr) (cap : Nat) (d : List UInt8) (hd : d.length ≤ 1048576) (hcap : d.length ≤ cap) (hi : BIn w a d) :
    Calls Tryz.prog 23 #[.slice a d.length cap] w fun e w' => PGot (readP d).1 (readP d).2 w.heap.size e w' ∧ Below w.heap.size w w' := by
  obtain ⟨R, hR⟩ : ∃ R, R = readP d := ⟨_, rfl⟩
  have HRR : Hid (R = readP d) := hR
  rw [← hR]
  clear hR
  by_cases h8 : 10000 < d.length
  · have HE : Hid (R = (2, rp0)) := by show _ = _; rw [HRR.out]; exact readP_long h8
    have g8 : (10000 : Int) < d.length := by omega
    clear HRR hi hcap
    generalize d.length = n at *
    go_enter Tryz.func23, Tryz.ntmps23
    go_wp2_with fail
    exact bodyPost_ret (v := .agg #[.int .i64 2, .int .i64 0, .slice none 0 0, .slice none 0 0]) (by simp [results, Tryz.results23, go_sem]) rfl ⟨by rw [HE.out]; exact PGot.zero _ _ _, (Below.refl _ _).alloc (Nat.le_refl _) _⟩
  have g8 : ¬ (10000 : Int) < d.length := by omega
  have H8 : Hid (¬ 10000 < d.length) := h8
  obtain ⟨W, hW⟩ : ∃ W, W = (w.alloc (.cells #[.int .i64 0, .int .i64 0, .slice none 0 0, .slice none 0 0] 42)).alloc (.cells #[.int .i64 5, .int .i64 0, .slice none 0 0, .slice none 0 0] 42) := ⟨_, rfl⟩
  have HW : Hid (W = (w.alloc (.cells #[.int .i64 0, .int .i64 0, .slice none 0 0, .slice none 0 0] 42)).alloc (.cells #[.int .i64 5, .int .i64 0, .slice none 0 0, .slice none 0 0] 42)) := hW
  have bW : Below w.heap.size w W := by rw [hW]; exact ((Below.refl _ _).alloc (Nat.le_refl _) _).alloc (by simp) _
  have f0 : Four W w.heap.size (.int .i64 0) (.int .i64 0) (.slice none 0 0) (.slice none 0 0) := by rw [hW]; exact (Four.new _ _ _ _ _ _).keep ((Below.refl _ _).alloc (Nat.le_refl _) _)
  have f5 : Four W (w.heap.size + 1) (.int .i64 5) (.int .i64 0) (.slice none 0 0) (.slice none 0 0) := by
    rw [hW]
    have := Four.new (w.alloc (.cells #[.int .i64 0, .int .i64 0, .slice none 0 0, .slice none 0 0] 42)) (.int .i64 5) (.int .i64 0) (.slice none 0 0) (.slice none 0 0) 42
    simpa using this
  have hcv : (convert 22 9 (.slice a d.length cap)).run Tryz.prog W = .ok (.string (hmk d)) W := bytes_text cap (hi.keep bW)
  have HIB : Hid (∀ X, Below w.heap.size w X → BIn X a d) := fun X hb => hi.keep hb
  have K0 : Hid (Below w.heap.size w W ∧ Four W w.heap.size (.int .i64 0) (.int .i64 0) (.slice none 0 0) (.slice none 0 0) ∧ Four W (w.heap.size + 1) (.int .i64 5) (.int .i64 0) (.slice none 0 0) (.slice none 0 0)) := ⟨bW, f0, f5⟩
  rw [hW] at hcv
  clear hW bW f0 f5 hi
  have hzd : (hmk d).size = d.length := hmk_size d
  have HZD : Hid (hmk d = hmk d ∧ (hmk d).data.toList = d) := ⟨rfl, hmk_list d⟩
  have HCS : Hid (∀ k, k + 3 < d.length → (ccL.isPrefixOf (d.drop k)) = decide (((hmk d).extract k (k + 4)).data.toList = [13, 10, 13, 10])) := fun k hk => by
    have := cc_slice (hmk d) k (by rw [hmk_size]; exact hk)
    rw [hmk_list] at this
    exact this
  have HT4 : Hid (∀ k, (hmk d).extract 0 k = hmk (d.take k)) := fun k => by rw [kext0, hmk_list]
  obtain ⟨t, ht⟩ : ∃ t, hmk d = t := ⟨_, rfl⟩
  rw [ht] at hcv hzd HCS HT4
  clear ht HZD
  obtain ⟨n, hn⟩ : ∃ n, d.length = n := ⟨_, rfl⟩
  have HN : Hid (d.length = n) := hn
  rw [hn] at hcv g8 hd hcap hzd HCS ⊢
  have hn8 : n ≤ 10000 := by omega
  clear hn h8
  go_enter Tryz.func23, Tryz.ntmps23
  go_upto_block 0 with fail
  rw [← HW.out]
  clear hcv HW
  go_cut [5] from 20 to 37 (fun s5 wx => ((s5 = .int .i64 (-1) ∧ ¬ ccAt d < n) ∨ (s5 = .int .i64 (ccAt d : Int) ∧ ccAt d < n)) ∧ Below W.heap.size W wx)
  case first =>
    go_wp2_with fail
    go_loopw [5, 6] (fun ev i wr => ∃ k : Nat, i = .int .i64 (k : Int) ∧ k ≤ n + 1 ∧ ((ev = .int .i64 (-1) ∧ k ≤ ccAt d) ∨ (ev = .int .i64 (ccAt d : Int) ∧ ccAt d < n)) ∧ Below W.heap.size W wr) (fun _ i _ => n + 5 - (intOf i).toNat)
    case atStart => exact ⟨0, rfl, Nat.zero_le _, .inl ⟨rfl, Nat.zero_le _⟩, Below.refl _ _⟩
    case round =>
      obtain ⟨k, rfl, hkn, hor, hb⟩ := hrel
      have K1 : Hid (Below W.heap.size W wr) := hb
      clear hb K0
      rcases hor with ⟨rfl, hkc⟩ | ⟨rfl, hcn⟩
      · have dm : decide ((-1 : Int) < 0) = true := rfl
        by_cases hlt : k + 3 < n
        · have g1 : decide ((k : Int) + 3 < (n : Int)) = true := by simp; omega
          have g2 : decide ((k : Int) + 3 < (t.size : Int)) = true := by rw [hzd]; exact g1
          obtain ⟨on1, on2⟩ := cc_on hkc (by rw [HN.out]; exact hlt)
          rw [HCS.out k hlt] at on1 on2
          have gk1 : (k : Int) ≤ (k : Int) + 4 := by omega
          have gk4 : (k : Int) + 4 ≤ t.size := by omega
          by_cases hq : (t.extract k (k + 4)).data.toList = [13, 10, 13, 10]
          · have dq := lit_is hq
            have HC : Hid (ccAt d = k) := on1 (decide_eq_true hq)
            clear on1 on2 hq HCS HT4 HIB HRR H8
            go_wp2_with fail
            go_roundw
            case rel => exact ⟨k + 1, by go_num, by omega, .inr ⟨by rw [HC.out], by rw [HC.out]; omega⟩, K1.out⟩
            case measure => simp [intOf]; omega
          · have dq := lit_not hq
            have HC : Hid (k + 1 ≤ ccAt d) := on2 (decide_eq_false hq)
            clear on1 on2 hq HCS HT4 HIB HRR H8
            go_wp2_with fail
            go_roundw
            case rel => exact ⟨k + 1, by go_num, by omega, .inl ⟨rfl, HC.out⟩, K1.out⟩
            case measure => simp [intOf]; omega
        · have g1 : decide ((k : Int) + 3 < (t.size : Int)) = false := by simp; omega
          have HE : Hid (¬ ccAt d < n) := by
            have := cc_end hkc (by rw [HN.out]; exact hlt)
            rw [HN.out] at this
            exact this
          clear HCS HT4 HIB HRR H8 HN hkc
          go_wp2_with fail
          go_meet
          exact ⟨.inl ⟨rfl, HE.out⟩, K1.out⟩
      · have HCN : Hid (ccAt d < n) := hcn
        have HEQ : Hid (Value.int .i64 (ccAt d : Int) = .int .i64 (ccAt d : Int)) := rfl
        have de : decide ((ccAt d : Int) < 0) = false := by simp
        clear HCS HT4 HIB HRR H8 HN
        generalize ccAt d = ec at *
        by_cases hlt : k + 3 < n
        · have g1 : decide ((k : Int) + 3 < (t.size : Int)) = true := by simp; omega
          go_wp2_with fail
          go_meet
          exact ⟨.inr ⟨rfl, HCN.out⟩, K1.out⟩
        · have g1 : decide ((k : Int) + 3 < (t.size : Int)) = false := by simp; omega
          go_wp2_with fail
          go_meet
          exact ⟨.inr ⟨rfl, HCN.out⟩, K1.out⟩
  case rest =>
  obtain ⟨hor, hbc⟩ := hcut
  have K1 : Hid (Below w.heap.size w wc ∧ Four wc w.heap.size (.int .i64 0) (.int .i64 0) (.slice none 0 0) (.slice none 0 0) ∧ Four wc (w.heap.size + 1) (.int .i64 5) (.int .i64 0) (.slice none 0 0) (.slice none 0 0) ∧ Below W.heap.size W wc) := ⟨K0.out.1.trans (hbc.mono K0.out.1.size), K0.out.2.1.keep hbc, K0.out.2.2.keep hbc, hbc⟩
  clear hbc K0
  generalize wc = wr at *
  rcases hor with ⟨rfl, hcn⟩ | ⟨rfl, hcn⟩
  · have HE : Hid (R = (5, rp0)) := by show _ = _; rw [HRR.out]; exact readP_none H8.out (by rw [HN.out]; exact hcn)
    clear HCS HT4 HIB HRR H8 HN
    obtain ⟨r0, r1, r2, r3, rf, _⟩ := K1.out.2.1
    have rf0 := rf 0
    have rf1 := rf 1
    have rf2 := rf 2
    have rf3 := rf 3
    clear rf
    obtain ⟨z0, z1, z2, z3, _, _⟩ := K1.out.2.2.1
    go_wp2_with fail
    have T2 := four_put (v0 := .int .i64 5) (v1 := .int .i64 0) (v2 := .slice none 0 0) (v3 := .slice none 0 0) K1.out.2.1
    have BZ := Below.put4 (v0 := .int .i64 5) (v1 := .int .i64 0) (v2 := .slice none 0 0) (v3 := .slice none 0 0) K1.out.1 (Nat.le_refl _)
    unfold put4 at T2
    exact bodyPost_ret (v := .agg #[.int .i64 5, .int .i64 0, .slice none 0 0, .slice none 0 0]) (by simp [results, Tryz.results23, go_sem, T2.c0, T2.c1, T2.c2, T2.c3]) rfl ⟨by rw [HE.out]; exact PGot.zero _ _ _, BZ⟩
  · have hcl : ccAt d < d.length := by rw [HN.out]; exact hcn
    have hr4 := (ccAt_room hcl).1
    rw [HN.out] at hr4
    have HFB := firstO_headB hcl
    have C1 := l5First_any (hmk (d.take (ccAt d + 4))) wr (by rw [hmk_size, List.length_take]; omega)
    rw [hmk_list, firstV_some HFB, ← HT4.out] at C1
    have hlens := lnP_len (d := d)
    rw [HN.out] at hlens
    have HCL : Hid (ccAt d < d.length) := hcl
    obtain ⟨ln, hln⟩ : ∃ ln, lnP d = ln := ⟨_, rfl⟩
    have HLN : Hid (lnP d = ln) := hln
    obtain ⟨rest, hrs⟩ : ∃ rest, restP d = rest := ⟨_, rfl⟩
    have HRS : Hid (restP d = rest) := hrs
    rw [hln, hrs] at C1 hlens
    obtain ⟨ec, hec⟩ : ∃ ec, ccAt d = ec := ⟨_, rfl⟩
    have HEC : Hid (ccAt d = ec) := hec
    rw [hec] at C1 hr4 hcn ⊢
    clear HCS HT4 HFB hcl hln hrs hec
    have ge0 : ¬ (ec : Int) < 0 := by omega
    have ge4 : (ec : Int) + 4 ≤ t.size := by omega
    have ge40 : (0 : Int) ≤ (ec : Int) + 4 := by omega
    go_wp2_with fail
    refine C1.mono ?_
    rintro e w1 ⟨rfl, hb1⟩
    have K2 : Hid (Below w.heap.size w w1 ∧ Four w1 w.heap.size (.int .i64 0) (.int .i64 0) (.slice none 0 0) (.slice none 0 0) ∧ Four w1 (w.heap.size + 1) (.int .i64 5) (.int .i64 0) (.slice none 0 0) (.slice none 0 0)) := ⟨K1.out.1.trans (hb1.mono K1.out.1.size), K1.out.2.1.keep hb1, K1.out.2.2.1.keep hb1⟩
    have C2 := specRead_any (hmk rest) w1
    clear C1 hb1 K1
    go_wp2_with fail
    refine C2.mono ?_
    rintro e w2 ⟨⟨v, rfl, ho⟩, hb2⟩
    obtain ⟨a6, c6, rfl, hi6⟩ := ho.at
    obtain ⟨H, hH⟩ : ∃ H, readHL (hmk rest) = H := ⟨_, rfl⟩
    obtain ⟨hc, hhc⟩ : ∃ hc, readHC (hmk rest) = hc := ⟨_, rfl⟩
    have HHC : Hid (readHC (hmk rest) = hc ∧ readHL (hmk rest) = H) := ⟨hhc, hH⟩
    rw [hH] at ho hi6 ⊢
    rw [hhc] at ⊢
    obtain ⟨V2, hV2⟩ : ∃ V, V = w2.alloc (.cells #[.int .i64 hc, .slice a6 H.length c6] 84) := ⟨_, rfl⟩
    have HV2 : Hid (V2 = w2.alloc (.cells #[.int .i64 hc, .slice a6 H.length c6] 84)) := hV2
    have aV : Below w2.heap.size w2 V2 := by rw [hV2]; exact (Below.refl _ _).alloc (Nat.le_refl _) _
    have tV : Two V2 w2.heap.size (.int .i64 hc) (.slice a6 H.length c6) := by rw [hV2]; exact Two.new _ _ _ _
    have b2 := K2.out.1.trans (hb2.mono K2.out.1.size)
    have K3 : Hid (Below w.heap.size w V2 ∧ Four V2 w.heap.size (.int .i64 0) (.int .i64 0) (.slice none 0 0) (.slice none 0 0) ∧ Four V2 (w.heap.size + 1) (.int .i64 5) (.int .i64 0) (.slice none 0 0) (.slice none 0 0) ∧ Two V2 w2.heap.size (.int .i64 hc) (.slice a6 H.length c6) ∧ OwnH V2 w1.heap.size (.slice a6 H.length c6) H ∧ w.heap.size < w1.heap.size) := ⟨b2.trans (aV.mono b2.size), (K2.out.2.1.keep hb2).keep aV, (K2.out.2.2.keep hb2).keep aV, tV, ho.below aV, K2.out.2.1.lt⟩
    clear C2 hb2 K2 ho hi6 aV tV b2 hV2 hH hhc
    generalize w1.heap.size = B6 at *
    try clear w1
    obtain ⟨t0, t1, _, _⟩ := K3.out.2.2.2.1
    by_cases h0 : hc = 0
    · subst h0
      have HRD : Hid (readHC (hmk (restP d)) = 0 ∧ readHL (hmk (restP d)) = H) := by
        have := HHC.out
        rw [← HRS.out] at this
        exact this
      have HH0 : Hid (headsC H = 0) := by
        have := read_okH HHC.out.1
        rw [HHC.out.2] at this
        exact this
      obtain ⟨h20, _⟩ := heads_sizes HH0.out
      have HBAD : Hid (lineOk ln = false → R = (5, rp0)) := fun h => by rw [HRR.out]; exact readP_line H8.out HCL.out HRD.out.1 (by rw [HLN.out]; exact h)
      have HGOOD : Hid (lineOk ln = true → (rpC ⟨valD (ln.drop 9), H, bodyP d⟩ = 0 → R = (0, ⟨valD (ln.drop 9), H, bodyP d⟩)) ∧ (¬ rpC ⟨valD (ln.drop 9), H, bodyP d⟩ = 0 → R = (rpC ⟨valD (ln.drop 9), H, bodyP d⟩, rp0))) := fun h => by
        have er : respOf d = ⟨valD (ln.drop 9), H, bodyP d⟩ := by rw [respOf, HRD.out.2, HLN.out]
        refine ⟨fun hq => ?_, fun hq => ?_⟩
        · rw [HRR.out, readP_ok H8.out HCL.out HRD.out.1 (by rw [HLN.out]; exact h) (by rw [er]; exact hq), er]
        · rw [HRR.out, readP_fault H8.out HCL.out HRD.out.1 (by rw [HLN.out]; exact h) (by rw [er]; exact hq), er]
      have hzl : (hmk ln).size = ln.length := hmk_size ln
      have HEX : Hid ((hmk ln).extract 0 9 = hmk (ln.take 9) ∧ (hmk ln).extract 9 (hmk ln).size = hmk (ln.drop 9)) := ⟨by rw [kext0, hmk_list], hof_list (by rw [kext2, hmk_list])⟩
      clear HRR HHC HRD HRS
      rw [HV2.out] at t0 t1
      by_cases hl12 : ln.length = 12
      · have g9 : (9 : Int) ≤ (hmk ln).size := by omega
        have g90 : (0 : Int) ≤ 9 := by omega
        have dN : (((hmk ln).size : Int) == 12) = true := by rw [beq_iff_eq]; omega
        have dNn : (((hmk ln).size : Int) != 12) = false := by rw [bne, dN]; rfl
        obtain ⟨ex1, ex2⟩ := HEX.out
        have HV9 : Hid ((ln.take 9 = verL ++ [32] → ((hmk (ln.take 9)).toList == [72, 84, 84, 80, 47, 49, 46, 49, 32]) = true) ∧ (¬ ln.take 9 = verL ++ [32] → ((hmk (ln.take 9)).toList == [72, 84, 84, 80, 47, 49, 46, 49, 32]) = false)) := ⟨fun h => lit_is (by rw [hmk_list, h]; rfl), fun h => lit_not (by rw [hmk_list]; exact h)⟩
        have HND : Hid ((okD (hmk (ln.drop 9)) = true → numD (hmk (ln.drop 9)) = valD (ln.drop 9) ∧ 0 ≤ valD (ln.drop 9)) ∧ (okD (hmk (ln.drop 9)) = false → numD (hmk (ln.drop 9)) = -1)) := ⟨fun h => ⟨by rw [numD_yes _ h, hmk_list], by have := (okD_bd _ h).1; rw [hmk_list] at this; exact this⟩, numD_no _⟩
        have HLK : Hid ((¬ ln.take 9 = verL ++ [32] → lineOk ln = false) ∧ (okD (hmk (ln.drop 9)) = false → lineOk ln = false) ∧ (ln.take 9 = verL ++ [32] → okD (hmk (ln.drop 9)) = true → lineOk ln = true)) := ⟨lineOk_ver, lineOk_num, lineOk_yes hl12⟩
        have HDE : Hid (∀ X, Calls Tryz.prog 57 #[.string (hmk (ln.drop 9))] X fun e w' => e = .returned (.int .i64 (numD (hmk (ln.drop 9)))) ∧ w' = X) := fun X => l1Delta_all _ X
        generalize hmk (ln.take 9) = p9 at *
        generalize hmk (ln.drop 9) = x9 at *
        generalize hmk ln = lt at *
        clear HEX hl12 hzl
        by_cases hv : ln.take 9 = verL ++ [32]
        · have dP := HV9.out.1 hv
          have C4 := HDE.out V2
          cases hok : okD x9 with
          | false =>
            have HE : Hid (R = (5, rp0)) := HBAD.out (HLK.out.2.1 hok)
            rw [HND.out.2 hok] at C4
            clear HBAD HGOOD HIB H8 HN HV9 HND HLK HDE hv hok
            obtain ⟨r0, r1, r2, r3, rf, _⟩ := K3.out.2.1
            have rf0 := rf 0
            have rf1 := rf 1
            have rf2 := rf 2
            have rf3 := rf 3
            clear rf
            obtain ⟨z0, z1, z2, z3, _, _⟩ := K3.out.2.2.1
            rw [HV2.out] at r0 r1 r2 r3 rf0 rf1 rf2 rf3 z0 z1 z2 z3
            go_wp2_with fail
            rw [← HV2.out]
            refine C4.mono ?_
            rintro e w3 ⟨rfl, hw⟩
            obtain rfl := hw.symm
            rw [← HV2.out] at r0 r1 r2 r3 rf0 rf1 rf2 rf3 z0 z1 z2 z3
            clear hw C4 HV2
            go_wp2_with fail
            have T2 := four_put (v0 := .int .i64 5) (v1 := .int .i64 0) (v2 := .slice none 0 0) (v3 := .slice none 0 0) K3.out.2.1
            have BZ := Below.put4 (v0 := .int .i64 5) (v1 := .int .i64 0) (v2 := .slice none 0 0) (v3 := .slice none 0 0) K3.out.1 (Nat.le_refl _)
            unfold put4 at T2
            exact bodyPost_ret (v := .agg #[.int .i64 5, .int .i64 0, .slice none 0 0, .slice none 0 0]) (by simp [results, Tryz.results23, go_sem, T2.c0, T2.c1, T2.c2, T2.c3]) rfl ⟨by rw [HE.out]; exact PGot.zero _ _ _, BZ⟩
          | true =>
            obtain ⟨hnd, hst⟩ := HND.out.1 hok
            rw [hnd] at C4 HDE
            obtain ⟨gg1, gg2⟩ := HGOOD.out (HLK.out.2.2 hv hok)
            obtain ⟨st, hste⟩ : ∃ st, valD (ln.drop 9) = st := ⟨_, rfl⟩
            rw [hste] at C4 HDE gg1 gg2 hst
            have HG : Hid ((rpC ⟨st, H, bodyP d⟩ = 0 → R = (0, ⟨st, H, bodyP d⟩)) ∧ (¬ rpC ⟨st, H, bodyP d⟩ = 0 → R = (rpC ⟨st, H, bodyP d⟩, rp0))) := ⟨gg1, gg2⟩
            have dst : decide (st < 0) = false := by simpa using hst
            clear HBAD HGOOD HV9 HND HLK hv hok hnd hste gg1 gg2
            go_wp2_with fail
            rw [← HV2.out]
            refine C4.mono ?_
            rintro e w3 ⟨rfl, hw⟩
            obtain rfl := hw.symm
            rw [← HV2.out] at t0 t1
            clear hw C4 HV2
            rcases HIB.out V2 K3.out.1 with hnil | ⟨b, off, rfl, hat⟩
            · exfalso
              have := HCL.out
              rw [hnil] at this
              simp [ccAt] at this
            obtain ⟨e4, he4⟩ : ∃ e4, ec + 4 = e4 := ⟨_, rfl⟩
            have hw4 : IntKind.i64.wrap ((ec : Int) + 4) = (e4 : Int) := by rw [IntKind.wrap_i64]; omega
            have gs0 : (0 : Int) ≤ (e4 : Int) := by omega
            have gs1 : (e4 : Int) ≤ (n : Int) := by omega
            have gs2 : (n : Int) ≤ (cap : Int) := by omega
            have HBD : Hid (bodyP d = d.drop e4 ∧ (d.drop e4).length = n - e4) := ⟨by rw [bodyP, HEC.out, he4], by rw [List.length_drop, HN.out]⟩
            have HCP : Hid (∀ X, Below V2.heap.size V2 X → Calls Tryz.prog 58 #[.slice (some ⟨b, off + e4, none⟩) (n - e4) (cap - e4)] X fun e w' => BCopy (d.drop e4) X.heap.size e w' ∧ Below X.heap.size X w') := fun X hb => l1Copy_any X b (off + e4) _ (d.drop e4) _ HBD.out.2 (by rw [HBD.out.2]; omega) (fun i c hc => by
              have h1 := (hat.keep hb) (e4 + i) c (by rw [List.getElem?_drop] at hc; exact hc)
              rw [← Nat.add_assoc] at h1
              exact h1)
            clear HIB hat
            have B0 : Hid (Below V2.heap.size V2 V2.drew) := (Below.refl _ _).drew
            have HKS : Hid (∀ X, Below V2.heap.size V2 X → X.cell? ⟨w2.heap.size, 1, none⟩ = some (.slice a6 H.length c6)) := fun X hb => (K3.out.2.2.2.1.keep hb).c1
            go_wp2_with fail
            have HAL : Hid (∀ X o, Below V2.heap.size V2 X → Below V2.heap.size V2 (World.alloc X o)) := fun X o hb => hb.alloc hb.size _
            have HP3 : Hid (∀ X B v0 v1 v2, V2.heap.size ≤ B → Below V2.heap.size V2 X → Below V2.heap.size V2 (put3 X B v0 v1 v2)) := fun X B v0 v1 v2 hB hb => Below.put3 hb hB
            have HTN : Hid (Three (V2.drew.alloc (.cells #[.int .i64 0, .slice none 0 0, .slice none 0 0] 32)) V2.heap.size (.int .i64 0) (.slice none 0 0) (.slice none 0 0)) := Three.new V2.drew _ _ _ _
            have HD2 : Hid (∀ X, Calls Tryz.prog 57 #[.string x9] X fun e w' => e = .returned (.int .i64 st) ∧ Below X.heap.size X w') := fun X => (HDE.out X).mono fun e w' ⟨h1, h2⟩ => ⟨h1, h2 ▸ Below.refl _ _⟩
            clear HDE
            have HC0 : Hid (cap = e4 → ∀ X, Below V2.heap.size V2 X → Calls Tryz.prog 58 #[.slice (some ⟨b, off, none⟩) (n - e4) 0] X fun e w' => BCopy (d.drop e4) X.heap.size e w' ∧ Below X.heap.size X w') := fun hce X _ => l1Copy_any X b off _ (d.drop e4) _ HBD.out.2 (by rw [HBD.out.2]; omega) (fun i c hc => by have := (List.getElem?_eq_some_iff.1 hc).1; have := HBD.out.2; omega)
            have HC1 := HCP
            clear HCP
            by_cases hce : cap = e4
            · have HCP : Hid (∀ X, Below V2.heap.size V2 X → Calls Tryz.prog 58 #[.slice (some ⟨b, off, none⟩) 0 0] X fun e w' => BCopy (d.drop e4) X.heap.size e w' ∧ Below X.heap.size X w') := by
                have h := HC0.out hce
                rw [show n - e4 = 0 from by omega] at h
                exact h
              clear HC0 HC1
              subst hce
              go_cut [11] from 73 to 83 (fun s11 wx => PCut V2 st (.slice a6 H.length c6) (d.drop cap) s11 wx)
              case first =>
                go_region_held3 (fun X => X.cell? ⟨w2.heap.size, 1, none⟩ = some (.slice a6 H.length c6))
                  (first | exact HKS.out _ BC.out | exact HKS.out _ BD.out | exact HKS.out _ B0.out | exact HKS.out _ (HAL.out _ _ BC.out) | exact HKS.out _ (HAL.out _ _ BD.out) | exact HKS.out _ (HAL.out _ _ B0.out) | exact HKS.out _ (HP3.out _ _ _ _ _ (Nat.le_refl _) BC.out) | exact HKS.out _ (HP3.out _ _ _ _ _ BD.out.size BC.out))
                  (first
                  | (go_at_call 57; refine (HD2.out _).mono ?_; rintro e wd ⟨rfl, hbd⟩; (first | have BD : Hid (Below V2.heap.size V2 wd) := B0.out.trans (hbd.mono B0.out.size) | have BD : Hid (Below V2.heap.size V2 wd) := (HAL.out _ _ B0.out).trans (hbd.mono (HAL.out _ _ B0.out).size)); (try have TD : Hid (Three wd V2.heap.size (.int .i64 0) (.slice none 0 0) (.slice none 0 0)) := HTN.out.keep hbd); clear hbd)
                  | (go_at_call 58; (first | refine (HCP.out _ BD.out).mono ?_ | refine (HCP.out _ (HAL.out _ _ BD.out)).mono ?_); rintro e wc ⟨⟨x, bn, bk, rfl, hbo⟩, hbc⟩; (first | have BC : Hid (Below V2.heap.size V2 wc) := BD.out.trans (hbc.mono BD.out.size) | have BC : Hid (Below V2.heap.size V2 wc) := (HAL.out _ _ BD.out).trans (hbc.mono (HAL.out _ _ BD.out).size)); have BO : Hid (BOwn wc _ (.slice x bn bk) (d.drop cap)) := hbo; (try (have TC : Hid (Three wc V2.heap.size (.int .i64 0) (.slice none 0 0) (.slice none 0 0)) := TD.out.keep hbc; obtain ⟨n0, n1, n2, nf, _⟩ := TC.out; have nf0 := nf 0; have nf1 := nf 1; have nf2 := nf 2; clear nf)); (try (have TE : Hid (Three wc wd.heap.size (.int .i64 0) (.slice none 0 0) (.slice none 0 0)) := (Three.new wd _ _ _ _).keep hbc; obtain ⟨n0, n1, n2, nf, _⟩ := TE.out; have nf0 := nf 0; have nf1 := nf 1; have nf2 := nf 2; clear nf)); clear hbo hbc))
                all_goals (go_wp2_with fail; go_meet; unfold PCut; first | (refine ⟨wc.heap.size, x, bn, bk, rfl, ?_, ?_, ?_⟩; exact Three.new _ _ _ _ _; exact (BO.out.keep ((Below.refl _ _).alloc (Nat.le_refl _) _)).lower BD.out.size; exact HAL.out _ _ BC.out) | (refine ⟨wd.heap.size, x, bn, bk, rfl, ?_, ?_, ?_⟩; exact three_put TE.out; exact (bown_put3 BO.out (by simp)).lower (HAL.out _ _ BD.out).size; exact HP3.out _ _ _ _ _ BD.out.size BC.out) | (refine ⟨V2.heap.size, x, bn, bk, rfl, ?_, ?_, ?_⟩; exact three_put TC.out; exact (bown_put3 BO.out TD.out.lt).lower BD.out.size; exact HP3.out _ _ _ _ _ (Nat.le_refl _) BC.out))
              case rest =>
              obtain ⟨B, x, bn, bk, rfl, h3, hbo, hbx⟩ := hcut
              have hbn : bn = (d.drop cap).length := by
                obtain ⟨x1, x2, e, _⟩ := hbo.shape
                simp only [Value.slice.injEq] at e
                exact e.2.1
              have K5 : Hid (Below w.heap.size w wc ∧ Four wc w.heap.size (.int .i64 0) (.int .i64 0) (.slice none 0 0) (.slice none 0 0) ∧ Three wc B (.int .i64 st) (.slice a6 H.length c6) (.slice x bn bk) ∧ OwnH wc B6 (.slice a6 H.length c6) H ∧ BOwn wc V2.heap.size (.slice x bn bk) (d.drop cap) ∧ w.heap.size < B6 ∧ w.heap.size < V2.heap.size) := ⟨K3.out.1.trans (hbx.mono K3.out.1.size), K3.out.2.1.keep hbx, h3, K3.out.2.2.2.2.1.below hbx, hbo, K3.out.2.2.2.2.2, K3.out.2.1.lt⟩
              have C6 := specResp_any wc st a6 c6 H x bn bk (by omega) (by rw [hbn, HBD.out.2]; omega) (own_in K5.out.2.2.2.1).2
              have HG2 : Hid ((respC st H bn = 0 → R = (0, ⟨st, H, d.drop cap⟩)) ∧ (¬ respC st H bn = 0 → R = (respC st H bn, rp0))) := by
                have hg := HG.out
                rw [HBD.out.1] at hg
                have e : rpC ⟨st, H, d.drop cap⟩ = respC st H bn := by rw [hbn]; rfl
                rw [e] at hg
                exact hg
              clear hbn hbx h3 hbo K3 HG HKS B0 HAL HP3 HTN HD2 HCP t0 t1
              obtain ⟨cq, hcq⟩ : ∃ cq, respC st H bn = cq := ⟨_, rfl⟩
              rw [hcq] at C6 HG2
              clear hcq
              obtain ⟨q0, q1, q2, _, _⟩ := K5.out.2.2.1
              go_wp2_with fail
              refine C6.mono ?_
              rintro e w6 ⟨rfl, hb6⟩
              have K6 : Hid (Below w.heap.size w w6 ∧ Four w6 w.heap.size (.int .i64 0) (.int .i64 0) (.slice none 0 0) (.slice none 0 0) ∧ Three w6 B (.int .i64 st) (.slice a6 H.length c6) (.slice x bn bk) ∧ OwnH w6 B6 (.slice a6 H.length c6) H ∧ BOwn w6 V2.heap.size (.slice x bn bk) (d.drop cap) ∧ w.heap.size < B6 ∧ w.heap.size < V2.heap.size) := ⟨K5.out.1.trans (hb6.mono K5.out.1.size), K5.out.2.1.keep hb6, K5.out.2.2.1.keep hb6, K5.out.2.2.2.1.below hb6, K5.out.2.2.2.2.1.keep hb6, K5.out.2.2.2.2.2.1, K5.out.2.2.2.2.2.2⟩
              clear C6 hb6 K5 q0 q1 q2
              obtain ⟨r0, r1, r2, r3, rf, _⟩ := K6.out.2.1
              have rf0 := rf 0
              have rf1 := rf 1
              have rf2 := rf 2
              have rf3 := rf 3
              clear rf
              by_cases hq : cq = 0
              · subst hq
                have HE : Hid (R = (0, ⟨st, H, d.drop cap⟩)) := HG2.out.1 rfl
                clear HG2
                obtain ⟨q0, q1, q2, _, _⟩ := K6.out.2.2.1
                go_wp2_with fail
                have T2 := four_put (v0 := .int .i64 0) (v1 := .int .i64 st) (v2 := .slice a6 H.length c6) (v3 := .slice x bn bk) K6.out.2.1
                have BZ := Below.put4 (v0 := .int .i64 0) (v1 := .int .i64 st) (v2 := .slice a6 H.length c6) (v3 := .slice x bn bk) K6.out.1 (Nat.le_refl _)
                have HO := ownH_put4 (v0 := .int .i64 0) (v1 := .int .i64 st) (v2 := .slice a6 H.length c6) (v3 := .slice x bn bk) K6.out.2.2.2.1 K6.out.2.2.2.2.2.1
                have HB := bown_put4 (v0 := .int .i64 0) (v1 := .int .i64 st) (v2 := .slice a6 H.length c6) (v3 := .slice x bn bk) K6.out.2.2.2.2.1 K6.out.2.2.2.2.2.2
                unfold put4 at T2
                exact bodyPost_ret (v := .agg #[.int .i64 0, .int .i64 st, .slice a6 H.length c6, .slice x bn bk]) (by simp [results, Tryz.results23, go_sem, T2.c0, T2.c1, T2.c2, T2.c3]) rfl ⟨by rw [HE.out]; exact ⟨_, _, _, _, _, _, rfl, HO.lower (Nat.le_of_lt K6.out.2.2.2.2.2.1), HB.lower (Nat.le_of_lt K6.out.2.2.2.2.2.2)⟩, BZ⟩
              · have HE : Hid (R = (cq, rp0)) := HG2.out.2 hq
                clear HG2
                go_wp2_with fail
                have T2 := four_put (v0 := .int .i64 cq) (v1 := .int .i64 0) (v2 := .slice none 0 0) (v3 := .slice none 0 0) K6.out.2.1
                have BZ := Below.put4 (v0 := .int .i64 cq) (v1 := .int .i64 0) (v2 := .slice none 0 0) (v3 := .slice none 0 0) K6.out.1 (Nat.le_refl _)
                unfold put4 at T2
                exact bodyPost_ret (v := .agg #[.int .i64 cq, .int .i64 0, .slice none 0 0, .slice none 0 0]) (by simp [results, Tryz.results23, go_sem, T2.c0, T2.c1, T2.c2, T2.c3]) rfl ⟨by rw [HE.out]; exact PGot.zero _ _ _, BZ⟩
            · have HCP := HC1
              clear HC0 HC1
              go_cut [11] from 73 to 83 (fun s11 wx => PCut V2 st (.slice a6 H.length c6) (d.drop e4) s11 wx)
              case first =>
                go_region_held3 (fun X => X.cell? ⟨w2.heap.size, 1, none⟩ = some (.slice a6 H.length c6))
                  (first | exact HKS.out _ BC.out | exact HKS.out _ BD.out | exact HKS.out _ B0.out | exact HKS.out _ (HAL.out _ _ BC.out) | exact HKS.out _ (HAL.out _ _ BD.out) | exact HKS.out _ (HAL.out _ _ B0.out) | exact HKS.out _ (HP3.out _ _ _ _ _ (Nat.le_refl _) BC.out) | exact HKS.out _ (HP3.out _ _ _ _ _ BD.out.size BC.out))
                  (first
                  | (go_at_call 57; refine (HD2.out _).mono ?_; rintro e wd ⟨rfl, hbd⟩; (first | have BD : Hid (Below V2.heap.size V2 wd) := B0.out.trans (hbd.mono B0.out.size) | have BD : Hid (Below V2.heap.size V2 wd) := (HAL.out _ _ B0.out).trans (hbd.mono (HAL.out _ _ B0.out).size)); (try have TD : Hid (Three wd V2.heap.size (.int .i64 0) (.slice none 0 0) (.slice none 0 0)) := HTN.out.keep hbd); clear hbd)
                  | (go_at_call 58; (first | refine (HCP.out _ BD.out).mono ?_ | refine (HCP.out _ (HAL.out _ _ BD.out)).mono ?_); rintro e wc ⟨⟨x, bn, bk, rfl, hbo⟩, hbc⟩; (first | have BC : Hid (Below V2.heap.size V2 wc) := BD.out.trans (hbc.mono BD.out.size) | have BC : Hid (Below V2.heap.size V2 wc) := (HAL.out _ _ BD.out).trans (hbc.mono (HAL.out _ _ BD.out).size)); have BO : Hid (BOwn wc _ (.slice x bn bk) (d.drop e4)) := hbo; (try (have TC : Hid (Three wc V2.heap.size (.int .i64 0) (.slice none 0 0) (.slice none 0 0)) := TD.out.keep hbc; obtain ⟨n0, n1, n2, nf, _⟩ := TC.out; have nf0 := nf 0; have nf1 := nf 1; have nf2 := nf 2; clear nf)); (try (have TE : Hid (Three wc wd.heap.size (.int .i64 0) (.slice none 0 0) (.slice none 0 0)) := (Three.new wd _ _ _ _).keep hbc; obtain ⟨n0, n1, n2, nf, _⟩ := TE.out; have nf0 := nf 0; have nf1 := nf 1; have nf2 := nf 2; clear nf)); clear hbo hbc))
                all_goals (go_wp2_with fail; go_meet; unfold PCut; first | (refine ⟨wc.heap.size, x, bn, bk, rfl, ?_, ?_, ?_⟩; exact Three.new _ _ _ _ _; exact (BO.out.keep ((Below.refl _ _).alloc (Nat.le_refl _) _)).lower BD.out.size; exact HAL.out _ _ BC.out) | (refine ⟨wd.heap.size, x, bn, bk, rfl, ?_, ?_, ?_⟩; exact three_put TE.out; exact (bown_put3 BO.out (by simp)).lower (HAL.out _ _ BD.out).size; exact HP3.out _ _ _ _ _ BD.out.size BC.out) | (refine ⟨V2.heap.size, x, bn, bk, rfl, ?_, ?_, ?_⟩; exact three_put TC.out; exact (bown_put3 BO.out TD.out.lt).lower BD.out.size; exact HP3.out _ _ _ _ _ (Nat.le_refl _) BC.out))
              case rest =>
              obtain ⟨B, x, bn, bk, rfl, h3, hbo, hbx⟩ := hcut
              have hbn : bn = (d.drop e4).length := by
                obtain ⟨x1, x2, e, _⟩ := hbo.shape
                simp only [Value.slice.injEq] at e
                exact e.2.1
              have K5 : Hid (Below w.heap.size w wc ∧ Four wc w.heap.size (.int .i64 0) (.int .i64 0) (.slice none 0 0) (.slice none 0 0) ∧ Three wc B (.int .i64 st) (.slice a6 H.length c6) (.slice x bn bk) ∧ OwnH wc B6 (.slice a6 H.length c6) H ∧ BOwn wc V2.heap.size (.slice x bn bk) (d.drop e4) ∧ w.heap.size < B6 ∧ w.heap.size < V2.heap.size) := ⟨K3.out.1.trans (hbx.mono K3.out.1.size), K3.out.2.1.keep hbx, h3, K3.out.2.2.2.2.1.below hbx, hbo, K3.out.2.2.2.2.2, K3.out.2.1.lt⟩
              have C6 := specResp_any wc st a6 c6 H x bn bk (by omega) (by rw [hbn, HBD.out.2]; omega) (own_in K5.out.2.2.2.1).2
              have HG2 : Hid ((respC st H bn = 0 → R = (0, ⟨st, H, d.drop e4⟩)) ∧ (¬ respC st H bn = 0 → R = (respC st H bn, rp0))) := by
                have hg := HG.out
                rw [HBD.out.1] at hg
                have e : rpC ⟨st, H, d.drop e4⟩ = respC st H bn := by rw [hbn]; rfl
                rw [e] at hg
                exact hg
              clear hbn hbx h3 hbo K3 HG HKS B0 HAL HP3 HTN HD2 HCP t0 t1
              obtain ⟨cq, hcq⟩ : ∃ cq, respC st H bn = cq := ⟨_, rfl⟩
              rw [hcq] at C6 HG2
              clear hcq
              obtain ⟨q0, q1, q2, _, _⟩ := K5.out.2.2.1
              go_wp2_with fail
              refine C6.mono ?_
              rintro e w6 ⟨rfl, hb6⟩
              have K6 : Hid (Below w.heap.size w w6 ∧ Four w6 w.heap.size (.int .i64 0) (.int .i64 0) (.slice none 0 0) (.slice none 0 0) ∧ Three w6 B (.int .i64 st) (.slice a6 H.length c6) (.slice x bn bk) ∧ OwnH w6 B6 (.slice a6 H.length c6) H ∧ BOwn w6 V2.heap.size (.slice x bn bk) (d.drop e4) ∧ w.heap.size < B6 ∧ w.heap.size < V2.heap.size) := ⟨K5.out.1.trans (hb6.mono K5.out.1.size), K5.out.2.1.keep hb6, K5.out.2.2.1.keep hb6, K5.out.2.2.2.1.below hb6, K5.out.2.2.2.2.1.keep hb6, K5.out.2.2.2.2.2.1, K5.out.2.2.2.2.2.2⟩
              clear C6 hb6 K5 q0 q1 q2
              obtain ⟨r0, r1, r2, r3, rf, _⟩ := K6.out.2.1
              have rf0 := rf 0
              have rf1 := rf 1
              have rf2 := rf 2
              have rf3 := rf 3
              clear rf
              by_cases hq : cq = 0
              · subst hq
                have HE : Hid (R = (0, ⟨st, H, d.drop e4⟩)) := HG2.out.1 rfl
                clear HG2
                obtain ⟨q0, q1, q2, _, _⟩ := K6.out.2.2.1
                go_wp2_with fail
                have T2 := four_put (v0 := .int .i64 0) (v1 := .int .i64 st) (v2 := .slice a6 H.length c6) (v3 := .slice x bn bk) K6.out.2.1
                have BZ := Below.put4 (v0 := .int .i64 0) (v1 := .int .i64 st) (v2 := .slice a6 H.length c6) (v3 := .slice x bn bk) K6.out.1 (Nat.le_refl _)
                have HO := ownH_put4 (v0 := .int .i64 0) (v1 := .int .i64 st) (v2 := .slice a6 H.length c6) (v3 := .slice x bn bk) K6.out.2.2.2.1 K6.out.2.2.2.2.2.1
                have HB := bown_put4 (v0 := .int .i64 0) (v1 := .int .i64 st) (v2 := .slice a6 H.length c6) (v3 := .slice x bn bk) K6.out.2.2.2.2.1 K6.out.2.2.2.2.2.2
                unfold put4 at T2
                exact bodyPost_ret (v := .agg #[.int .i64 0, .int .i64 st, .slice a6 H.length c6, .slice x bn bk]) (by simp [results, Tryz.results23, go_sem, T2.c0, T2.c1, T2.c2, T2.c3]) rfl ⟨by rw [HE.out]; exact ⟨_, _, _, _, _, _, rfl, HO.lower (Nat.le_of_lt K6.out.2.2.2.2.2.1), HB.lower (Nat.le_of_lt K6.out.2.2.2.2.2.2)⟩, BZ⟩
              · have HE : Hid (R = (cq, rp0)) := HG2.out.2 hq
                clear HG2
                go_wp2_with fail
                have T2 := four_put (v0 := .int .i64 cq) (v1 := .int .i64 0) (v2 := .slice none 0 0) (v3 := .slice none 0 0) K6.out.2.1
                have BZ := Below.put4 (v0 := .int .i64 cq) (v1 := .int .i64 0) (v2 := .slice none 0 0) (v3 := .slice none 0 0) K6.out.1 (Nat.le_refl _)
                unfold put4 at T2
                exact bodyPost_ret (v := .agg #[.int .i64 cq, .int .i64 0, .slice none 0 0, .slice none 0 0]) (by simp [results, Tryz.results23, go_sem, T2.c0, T2.c1, T2.c2, T2.c3]) rfl ⟨by rw [HE.out]; exact PGot.zero _ _ _, BZ⟩
        · have HE : Hid (R = (5, rp0)) := HBAD.out (HLK.out.1 hv)
          have dP := HV9.out.2 hv
          clear HBAD HGOOD HIB H8 HN HV9 HND HLK HDE hv
          obtain ⟨r0, r1, r2, r3, rf, _⟩ := K3.out.2.1
          have rf0 := rf 0
          have rf1 := rf 1
          have rf2 := rf 2
          have rf3 := rf 3
          clear rf
          obtain ⟨z0, z1, z2, z3, _, _⟩ := K3.out.2.2.1
          rw [HV2.out] at r0 r1 r2 r3 rf0 rf1 rf2 rf3 z0 z1 z2 z3
          go_wp2_with fail
          rw [← HV2.out]
          have T2 := four_put (v0 := .int .i64 5) (v1 := .int .i64 0) (v2 := .slice none 0 0) (v3 := .slice none 0 0) K3.out.2.1
          have BZ := Below.put4 (v0 := .int .i64 5) (v1 := .int .i64 0) (v2 := .slice none 0 0) (v3 := .slice none 0 0) K3.out.1 (Nat.le_refl _)
          unfold put4 at T2
          exact bodyPost_ret (v := .agg #[.int .i64 5, .int .i64 0, .slice none 0 0, .slice none 0 0]) (by simp [results, Tryz.results23, go_sem, T2.c0, T2.c1, T2.c2, T2.c3]) rfl ⟨by rw [HE.out]; exact PGot.zero _ _ _, BZ⟩
      · have HE : Hid (R = (5, rp0)) := HBAD.out (lineOk_len hl12)
        have dN : (((hmk ln).size : Int) == 12) = false := int_ne_beq (by omega)
        have dNn : (((hmk ln).size : Int) != 12) = true := by rw [bne, dN]; rfl
        clear HBAD HGOOD HEX HIB H8 HN
        generalize hmk ln = lt at *
        obtain ⟨r0, r1, r2, r3, rf, _⟩ := K3.out.2.1
        have rf0 := rf 0
        have rf1 := rf 1
        have rf2 := rf 2
        have rf3 := rf 3
        clear rf
        obtain ⟨z0, z1, z2, z3, _, _⟩ := K3.out.2.2.1
        rw [HV2.out] at r0 r1 r2 r3 rf0 rf1 rf2 rf3 z0 z1 z2 z3
        go_wp2_with fail
        rw [← HV2.out]
        have T2 := four_put (v0 := .int .i64 5) (v1 := .int .i64 0) (v2 := .slice none 0 0) (v3 := .slice none 0 0) K3.out.2.1
        have BZ := Below.put4 (v0 := .int .i64 5) (v1 := .int .i64 0) (v2 := .slice none 0 0) (v3 := .slice none 0 0) K3.out.1 (Nat.le_refl _)
        unfold put4 at T2
        exact bodyPost_ret (v := .agg #[.int .i64 5, .int .i64 0, .slice none 0 0, .slice none 0 0]) (by simp [results, Tryz.results23, go_sem, T2.c0, T2.c1, T2.c2, T2.c3]) rfl ⟨by rw [HE.out]; exact PGot.zero _ _ _, BZ⟩
    · have HE : Hid (R = (hc, rp0)) := by
        show _ = _
        rw [HRR.out, readP_heads H8.out HCL.out (by rw [HRS.out, HHC.out.1]; exact h0), HRS.out, HHC.out.1]
      clear HRR H8 HHC HRS HIB HN
      obtain ⟨r0, r1, r2, r3, rf, _⟩ := K3.out.2.1
      have rf0 := rf 0
      have rf1 := rf 1
      have rf2 := rf 2
      have rf3 := rf 3
      clear rf
      rw [HV2.out] at r0 r1 r2 r3 rf0 rf1 rf2 rf3 t0 t1
      go_wp2_with fail
      rw [← HV2.out]
      have T2 := four_put (v0 := .int .i64 hc) (v1 := .int .i64 0) (v2 := .slice none 0 0) (v3 := .slice none 0 0) K3.out.2.1
      have BZ := Below.put4 (v0 := .int .i64 hc) (v1 := .int .i64 0) (v2 := .slice none 0 0) (v3 := .slice none 0 0) K3.out.1 (Nat.le_refl _)
      unfold put4 at T2
      exact bodyPost_ret (v := .agg #[.int .i64 hc, .int .i64 0, .slice none 0 0, .slice none 0 0]) (by simp [results, Tryz.results23, go_sem, T2.c0, T2.c1, T2.c2, T2.c3]) rfl ⟨by rw [HE.out]; exact PGot.zero _ _ _, BZ⟩
end Go.Proofs.YtonnggelpjjmmaaGreatDoor
/-
  What statusIn answers.
-/
namespace Go.Proofs.YtonnggelpjjmmaaGreatDoor
open Go.ChangeShapes Go.WideShapes Go.ChangeAt Go.RowKit
def pre9 : List UInt8 := [72, 84, 84, 80, 47, 49, 46, 49, 32]
theorem pre9_ver : pre9 = verL ++ [32] := rfl
theorem pre9_is {ln : List UInt8} (h : Lib.hasPrefix ln pre9 = true) : ln.take 9 = verL ++ [32] := by
  obtain ⟨t, rfl⟩ := List.isPrefixOf_iff_prefix.1 h
  rfl
theorem pre9_not {ln : List UInt8} (h : Lib.hasPrefix ln pre9 = false) : ¬ ln.take 9 = verL ++ [32] := fun e => by
  have : Lib.hasPrefix ln pre9 = true := List.isPrefixOf_iff_prefix.2 ⟨ln.drop 9, by rw [pre9_ver, ← e, List.take_append_drop]⟩
  rw [h] at this; cases this
theorem mpre (ln : List UInt8) (w : World) :
    Calls Tryz.prog 127 #[.string (hmk ln), .string ⟨#[72, 84, 84, 80, 47, 49, 46, 49, 32]⟩] w fun e w' => e = .returned (.tuple #[.string (hmk (Lib.trimPrefix ln pre9)), .bool (Lib.hasPrefix ln pre9)]) ∧ w' = w := by
  have := Any.strings_CutPrefix Tryz.lays103 (hmk ln) ⟨#[72, 84, 84, 80, 47, 49, 46, 49, 32]⟩ w
  rw [hmk_list] at this
  exact this
def stV (ln : List UInt8) : Int := if lineOk ln = true then valD (ln.drop 9) else 0
def stC (ln : List UInt8) : Int := if lineOk ln = true then 0 else 5
set_option maxRecDepth 100000 in
set_option maxHeartbeats 8000000 in
theorem statusIn_any (E : Errs) (ln : List UInt8) (w : World) (hE : ErrsIs w E) :
    Calls Tryz.prog 88 #[.string (hmk ln)] w fun e w' => e = .returned (.tuple #[.int .i64 (stV ln), errV E (stC ln)]) ∧ Below w.heap.size w w' := by
  have C := mpre ln w
  have HE0 : Hid (∀ X, Below w.heap.size w X → ErrsIs X E) := fun X hb => hE.below hb
  clear hE
  obtain ⟨x, hx⟩ : ∃ x, hmk (Lib.trimPrefix ln pre9) = x := ⟨_, rfl⟩
  rw [hx] at C
  have C2 := implDelta x w
  have HNO : Hid (lineOk ln = false → Value.tuple #[.int .i64 0, .iface 230 (.pointer (some E.u))] = Value.tuple #[.int .i64 (stV ln), errV E (stC ln)]) := fun h => by unfold stV stC; rw [if_neg (by rw [h]; decide), if_neg (by rw [h]; decide)]; rfl
  have HYES : Hid (lineOk ln = true → Value.tuple #[.int .i64 (valD (ln.drop 9)), .nilIface] = Value.tuple #[.int .i64 (stV ln), errV E (stC ln)]) := fun h => by unfold stV stC; rw [if_pos h, if_pos h]; rfl
  obtain ⟨rv, hrv⟩ : ∃ rv, Value.tuple #[.int .i64 (stV ln), errV E (stC ln)] = rv := ⟨_, rfl⟩
  rw [hrv] at HNO HYES ⊢
  clear hrv
  have HTX : Hid (Lib.hasPrefix ln pre9 = true → x = hmk (ln.drop 9)) := fun h => by rw [← hx, Lib.trimPrefix, if_pos h]; rfl
  cases hp : Lib.hasPrefix ln pre9 with
  | false =>
    rw [hp] at C
    have HV := HNO.out (lineOk_ver (pre9_not hp))
    have HVH : Hid (Value.tuple #[.int .i64 0, .iface 230 (.pointer (some E.u))] = rv) := HV
    clear HNO HYES HTX HV hx hp
    generalize hmk ln = lt at *
    generalize dC x = dc at *
    generalize dV x = dv at *
    go_enter Tryz.func88, Tryz.ntmps88
    go_wp2_with fail
    refine C.mono ?_
    rintro e w1 ⟨rfl, hw⟩
    obtain rfl := hw.symm
    clear hw C
    go_wp2_with fail
    refine C2.mono ?_
    rintro e w2 ⟨rfl, hb2⟩
    have KB : Hid (Below w.heap.size w (w2.alloc (.cells #[.int .i64 dc, .int .i64 dv] 153))) := hb2.alloc hb2.size _
    have gU := (HE0.out _ KB.out).gU
    clear C2 hb2 HE0
    go_wp2_with fail
    go_region
    go_wp2_with fail
    exact bodyPost_ret (v := .tuple #[.int .i64 0, .iface 230 (.pointer (some E.u))]) (by simp [results, Tryz.results88, go_sem]) rfl ⟨congrArg Ending.returned HVH.out, KB.out.drew⟩
  | true =>
    rw [hp] at C
    have hxd := HTX.out hp
    have hz : x.size = ln.length - 9 := by rw [hxd, hmk_size, List.length_drop]
    have hpl : 9 ≤ ln.length := by
      have := congrArg List.length (pre9_is hp)
      simp only [List.length_take, List.length_append, verL, List.length_cons, List.length_nil] at this
      omega
    by_cases h3 : x.size = 3
    · have d3 : ((x.size : Int) == 3) = true := by rw [beq_iff_eq]; omega
      have d3n : ((x.size : Int) != 3) = false := by rw [bne, d3]; rfl
      have hl12 : ln.length = 12 := by omega
      cases hok : okD x with
      | true =>
        have HV := HYES.out (lineOk_yes hl12 (pre9_is hp) (by rw [← hxd]; exact hok))
        rw [dC_yes hok, dV_yes hok] at C2
        have hxl : x.data.toList = ln.drop 9 := by rw [hxd, hmk_list]
        rw [hxl] at C2
        obtain ⟨st, hst⟩ : ∃ st, valD (ln.drop 9) = st := ⟨_, rfl⟩
        rw [hst] at C2 HV
        have HVH : Hid (Value.tuple #[.int .i64 st, .nilIface] = rv) := HV
        clear HNO HYES HTX HV hx hp hxd hz hpl h3 hl12 hok hxl hst
        generalize hmk ln = lt at *
        go_enter Tryz.func88, Tryz.ntmps88
        go_wp2_with fail
        refine C.mono ?_
        rintro e w1 ⟨rfl, hw⟩
        obtain rfl := hw.symm
        clear hw C
        go_wp2_with fail
        refine C2.mono ?_
        rintro e w2 ⟨rfl, hb2⟩
        have KB : Hid (Below w.heap.size w (w2.alloc (.cells #[.int .i64 0, .int .i64 st] 153))) := hb2.alloc hb2.size _
        clear C2 hb2 HE0
        go_wp2_with fail
        go_ret2
        exact ⟨congrArg Ending.returned HVH.out, KB.out⟩
      | false =>
        have HV := HNO.out (lineOk_num (by rw [← hxd]; exact hok))
        rw [dC_no hok, dV_no hok] at C2
        have HVH : Hid (Value.tuple #[.int .i64 0, .iface 230 (.pointer (some E.u))] = rv) := HV
        clear HNO HYES HTX HV hx hp hxd hz hpl h3 hl12 hok
        generalize hmk ln = lt at *
        go_enter Tryz.func88, Tryz.ntmps88
        go_wp2_with fail
        refine C.mono ?_
        rintro e w1 ⟨rfl, hw⟩
        obtain rfl := hw.symm
        clear hw C
        go_wp2_with fail
        refine C2.mono ?_
        rintro e w2 ⟨rfl, hb2⟩
        have KB : Hid (Below w.heap.size w (w2.alloc (.cells #[.int .i64 5, .int .i64 0] 153))) := hb2.alloc hb2.size _
        have gU := (HE0.out _ KB.out).gU
        clear C2 hb2 HE0
        go_wp2_with fail
        go_region
        go_wp2_with fail
        exact bodyPost_ret (v := .tuple #[.int .i64 0, .iface 230 (.pointer (some E.u))]) (by simp [results, Tryz.results88, go_sem]) rfl ⟨congrArg Ending.returned HVH.out, KB.out.drew⟩
    · have d3 : ((x.size : Int) == 3) = false := int_ne_beq (by omega)
      have d3n : ((x.size : Int) != 3) = true := by rw [bne, d3]; rfl
      have HV := HNO.out (lineOk_len (by omega))
      have HVH : Hid (Value.tuple #[.int .i64 0, .iface 230 (.pointer (some E.u))] = rv) := HV
      clear HNO HYES HTX HV hx hp hxd hz hpl h3
      generalize hmk ln = lt at *
      generalize dC x = dc at *
      generalize dV x = dv at *
      go_enter Tryz.func88, Tryz.ntmps88
      go_wp2_with fail
      refine C.mono ?_
      rintro e w1 ⟨rfl, hw⟩
      obtain rfl := hw.symm
      clear hw C
      go_wp2_with fail
      refine C2.mono ?_
      rintro e w2 ⟨rfl, hb2⟩
      have KB : Hid (Below w.heap.size w (w2.alloc (.cells #[.int .i64 dc, .int .i64 dv] 153))) := hb2.alloc hb2.size _
      have gU := (HE0.out _ KB.out).gU
      clear C2 hb2 HE0
      go_wp2_with fail
      go_region
      go_wp2_with fail
      exact bodyPost_ret (v := .tuple #[.int .i64 0, .iface 230 (.pointer (some E.u))]) (by simp [results, Tryz.results88, go_sem]) rfl ⟨congrArg Ending.returned HVH.out, KB.out.drew⟩
end Go.Proofs.YtonnggelpjjmmaaGreatDoor
/-
  What responseIn answers.
-/
namespace Go.Proofs.YtonnggelpjjmmaaGreatDoor
open Go.ChangeShapes Go.WideShapes Go.ChangeAt Go.RowKit
theorem mcutC_yes (l : List UInt8) (w : World) (hm : MaxIs w) (hl : l.length ≤ 20000) (h : ccAt l < l.length) :
    Calls Tryz.prog 64 #[.string (hmk l), .string ⟨#[13, 10, 13, 10]⟩] w fun e w' => e = .returned (.tuple #[.string (hmk (l.take (ccAt l))), .string (hmk (bodyP l)), .bool true]) ∧ Below w.heap.size w w' := by
  obtain ⟨m, hm⟩ := hm
  have := Any.strings_Cut Tryz.laysM145.ton145 (hmk l) ⟨#[13, 10, 13, 10]⟩ m w (by rw [hmk_size]; omega) hm
  rw [hmk_list, show (⟨#[13, 10, 13, 10]⟩ : ByteArray).data.toList = ccL from rfl, cut_pat (by simp [ccL]) h] at this
  exact this.mono fun e w' ⟨h1, n, h2⟩ => ⟨h1, h2 ▸ below_drewN w n⟩
theorem mcutC_no (l : List UInt8) (w : World) (hm : MaxIs w) (hl : l.length ≤ 20000) (h : ¬ ccAt l < l.length) :
    Calls Tryz.prog 64 #[.string (hmk l), .string ⟨#[13, 10, 13, 10]⟩] w fun e w' => e = .returned (.tuple #[.string (hmk l), .string ⟨#[]⟩, .bool false]) ∧ Below w.heap.size w w' := by
  obtain ⟨m, hm⟩ := hm
  have := Any.strings_Cut Tryz.laysM145.ton145 (hmk l) ⟨#[13, 10, 13, 10]⟩ m w (by rw [hmk_size]; omega) hm
  rw [hmk_list, show (⟨#[13, 10, 13, 10]⟩ : ByteArray).data.toList = ccL from rfl, cut_pat_no (by simp [ccL]) h] at this
  exact this.mono fun e w' ⟨h1, n, h2⟩ => ⟨h1, h2 ▸ below_drewN w n⟩
/-- What responseIn hands back: a response (of its own, where there is no error), and the error of a code. -/
def PIn (E : Errs) (c : Int) (q : Rp) (base : Nat) (e : Ending) (w : World) : Prop := ∃ s a n k b bn bk, e = .returned (.tuple #[.agg #[.int .i64 s, .slice a n k, .slice b bn bk], errV E c]) ∧ (c = 0 → q.s = s ∧ OwnH w base (.slice a n k) q.l ∧ BOwn w base (.slice b bn bk) q.b)
theorem PIn.bad {E : Errs} {c : Int} {q : Rp} {base : Nat} {s : Int} {a b : Option Addr} {n k bn bk : Nat} {w : World} {ev : Value} (h0 : ¬ c = 0) (he : ev = errV E c) : PIn E c q base (.returned (.tuple #[.agg #[.int .i64 s, .slice a n k, .slice b bn bk], ev])) w := ⟨s, a, n, k, b, bn, bk, by rw [he], fun h => absurd h h0⟩
/-- What lies in memory while a response that was read is asked for its error. -/
structure PQS (w : World) (st : Int) (sl sb : Value) (B8 : Nat) (H : List Hdr) (BL : List UInt8) (B : Nat) (X : World) : Prop where
  b : Below w.heap.size w X
  three : Three X B (.int .i64 st) sl sb
  own : OwnH X B8 sl H
  ownb : BOwn X B8 sb BL
  lt8 : w.heap.size < B8
  ltB : w.heap.size < B
  res : ∃ u0 u1 u2, Three X w.heap.size u0 u1 u2
theorem PQS.keep {w : World} {st : Int} {sl sb : Value} {B8 : Nat} {H : List Hdr} {BL : List UInt8} {B : Nat} {X X' : World} (h : PQS w st sl sb B8 H BL B X) (hb : Below X.heap.size X X') : PQS w st sl sb B8 H BL B X' := by
  obtain ⟨u0, u1, u2, hr⟩ := h.res
  exact ⟨h.b.trans (hb.mono h.b.size), h.three.keep hb, h.own.below hb, h.ownb.keep hb, h.lt8, h.ltB, ⟨u0, u1, u2, hr.keep hb⟩⟩
theorem PQS.put {w : World} {st : Int} {sl sb : Value} {B8 : Nat} {H : List Hdr} {BL : List UInt8} {B : Nat} {X : World} (h : PQS w st sl sb B8 H BL B X) (v0 v1 v2 : Value) : PQS w st sl sb B8 H BL B (put3 X w.heap.size v0 v1 v2) ∧ Three (put3 X w.heap.size v0 v1 v2) w.heap.size v0 v1 v2 := by
  obtain ⟨u0, u1, u2, hr⟩ := h.res
  have h4 := three_put (v0 := v0) (v1 := v1) (v2 := v2) hr
  have hlt := h.ltB
  have ot : ∀ (Y : World) (i j : Nat) (v : Value), (Y.setCell ⟨w.heap.size, i, none⟩ v).cell? ⟨B, j, none⟩ = Y.cell? ⟨B, j, none⟩ := fun Y i j v => World.cell?_setCell_other _ _ _ _ (fun e => by have := congrArg Addr.block e; simp only at this; omega)
  refine ⟨⟨Below.put3 h.b (Nat.le_refl _), ⟨?_, ?_, ?_, ?_, ?_⟩, ownH_put3 h.own h.lt8, bown_put3 h.ownb h.lt8, h.lt8, h.ltB, ⟨_, _, _, h4⟩⟩, h4⟩
  · unfold put3; rw [ot, ot, ot]; exact h.three.c0
  · unfold put3; rw [ot, ot, ot]; exact h.three.c1
  · unfold put3; rw [ot, ot, ot]; exact h.three.c2
  · intro o; unfold put3; simp only [World.frozen?_setCell]; exact h.three.fr o
  · unfold put3; simpa using h.three.lt
set_option maxRecDepth 100000 in
set_option maxHeartbeats 16000000 in
theorem implRespIn_any (E : Errs) (w : World) (d : List UInt8) (h8 : ¬ 10000 < d.length) (hset : SetIs w) (hE : ErrsIs w E) (hmx : MaxIs w) :
    Calls Tryz.prog 44 #[.string (hmk d)] w fun e w' => PIn E (readP d).1 (readP d).2 w.heap.size e w' ∧ Below w.heap.size w w' := by
  obtain ⟨W, hW⟩ : ∃ W, W = w.alloc (.cells #[.int .i64 0, .slice none 0 0, .slice none 0 0] 32) := ⟨_, rfl⟩
  have HW : Hid (W = w.alloc (.cells #[.int .i64 0, .slice none 0 0, .slice none 0 0] 32)) := hW
  have bW : Below w.heap.size w W := by rw [hW]; exact (Below.refl _ _).alloc (Nat.le_refl _) _
  have f0 : Three W w.heap.size (.int .i64 0) (.slice none 0 0) (.slice none 0 0) := by rw [hW]; exact Three.new _ _ _ _ _
  have K0 : Hid (Below w.heap.size w W ∧ Three W w.heap.size (.int .i64 0) (.slice none 0 0) (.slice none 0 0)) := ⟨bW, f0⟩
  obtain ⟨R, hR⟩ : ∃ R, R = readP d := ⟨_, rfl⟩
  have HRR : Hid (R = readP d) := hR
  rw [← hR]
  have HE0 : Hid (∀ X, Below w.heap.size w X → ErrsIs X E) := fun X hb => hE.below hb
  have h3 : 3 < w.heap.size := block_lt_of_cell hE.gU
  have hne : ∀ (X : World) (i : Nat) (v : Value), (X.setCell ⟨w.heap.size, i, none⟩ v).cell? ⟨3, 0, none⟩ = X.cell? ⟨3, 0, none⟩ := fun X i v => World.cell?_setCell_other _ _ _ _ (fun e => by have := congrArg Addr.block e; simp only at this; omega)
  have HS : Hid (∀ X, Below w.heap.size w X → SetIs X ∧ MaxIs X) := fun X hb => ⟨hset.below hb, hmx.below hb⟩
  have H8 : Hid (¬ 10000 < d.length) := h8
  clear hR bW f0 hset hE hmx hW
  by_cases hcc : ccAt d < d.length
  · have C := mcutC_yes d W (HS.out W K0.out.1).2 (by omega) hcc
    have hr4 := (ccAt_room hcc).1
    have HCL : Hid (ccAt d < d.length) := hcc
    have hadd : ∀ X, (Op.stringOp .add (hmk (d.take (ccAt d))) ⟨#[13, 10]⟩).run Tryz.prog X = .ok (.string (hmk (headB d))) X := fun X => by
      have e : hmk (headB d) = hmk (d.take (ccAt d)) ++ ⟨#[13, 10]⟩ := by rw [headB, ← hmk_add]; rfl
      rw [e]
      exact run_string_add_sum X _ _ (by rw [hmk_size, List.length_take, show (⟨#[13, 10]⟩ : ByteArray).size = 2 from rfl]; omega)
    have HC2 : Hid (∀ X, MaxIs X → Calls Tryz.prog 64 #[.string (hmk (headB d)), .string ⟨#[13, 10]⟩] X fun e w' => e = .returned (.tuple #[.string (hmk (lnP d)), .string (hmk (restP d)), .bool true]) ∧ Below X.heap.size X w') := fun X hX => by
      have hl : (headB d).length ≤ 20000 := by unfold headB; simp only [List.length_append, List.length_take, List.length_cons, List.length_nil]; omega
      have hlt : crAt (headB d) < (headB d).length := by
        have := (crAt_app (d.take (ccAt d)) []).1
        unfold headB
        simp only [List.length_append, List.length_cons, List.length_nil] at this ⊢
        omega
      exact mcut_yes (headB d) X hX hl hlt
    have hbl : (hmk (bodyP d)).size ≤ 10000 := by rw [hmk_size, bodyP, List.length_drop]; omega
    have HBT : Hid ((hmk (bodyP d)).data.toList = bodyP d) := hmk_list _
    have hlens := lnP_len (d := d)
    obtain ⟨ln, hln⟩ : ∃ ln, lnP d = ln := ⟨_, rfl⟩
    have HLN : Hid (lnP d = ln) := hln
    obtain ⟨rest, hrs⟩ : ∃ rest, restP d = rest := ⟨_, rfl⟩
    have HRS : Hid (restP d = rest) := hrs
    rw [hln, hrs] at HC2
    clear hln hrs hcc h8 hlens hr4
    generalize hmk (d.take (ccAt d)) = hdt at *
    generalize hmk (headB d) = hbt at *
    obtain ⟨bt, hbt2⟩ : ∃ bt, hmk (bodyP d) = bt := ⟨_, rfl⟩
    rw [hbt2] at C hbl HBT
    clear hbt2
    generalize hmk d = t at *
    go_enter Tryz.func44, Tryz.ntmps44
    go_wp2_with fail
    rw [← HW.out]
    refine C.mono ?_
    rintro e w1 ⟨rfl, hb1⟩
    have K1 : Hid (Below w.heap.size w w1 ∧ Three w1 w.heap.size (.int .i64 0) (.slice none 0 0) (.slice none 0 0)) := ⟨K0.out.1.trans (hb1.mono K0.out.1.size), K0.out.2.keep hb1⟩
    have C2 := HC2.out w1 (HS.out w1 K1.out.1).2
    clear C hb1 K0 HW HC2
    go_wp2_with fail
    refine C2.mono ?_
    rintro e w2 ⟨rfl, hb2⟩
    have K2 : Hid (Below w.heap.size w w2 ∧ Three w2 w.heap.size (.int .i64 0) (.slice none 0 0) (.slice none 0 0)) := ⟨K1.out.1.trans (hb2.mono K1.out.1.size), K1.out.2.keep hb2⟩
    have C3 := implRead_any (hmk rest) w2 (HS.out w2 K2.out.1).1 (HS.out w2 K2.out.1).2
    clear C2 hb2 K1 hadd
    try clear w1
    go_wp2_with fail
    refine C3.mono ?_
    rintro e w3 ⟨⟨v, rfl, ho⟩, hb3⟩
    obtain ⟨a6, c6, rfl, hi6⟩ := ho.at
    obtain ⟨H, hH⟩ : ∃ H, readHL (hmk rest) = H := ⟨_, rfl⟩
    obtain ⟨hc, hhc⟩ : ∃ hc, readHC (hmk rest) = hc := ⟨_, rfl⟩
    have HHC : Hid (readHC (hmk rest) = hc ∧ readHL (hmk rest) = H) := ⟨hhc, hH⟩
    have hcodes := readHC_codes (hmk rest)
    rw [hhc] at hcodes
    rw [hH] at ho hi6 ⊢
    rw [hhc] at ⊢
    obtain ⟨V2, hV2⟩ : ∃ V, V = w3.alloc (.cells #[.int .i64 hc, .slice a6 H.length c6] 84) := ⟨_, rfl⟩
    have HV2 : Hid (V2 = w3.alloc (.cells #[.int .i64 hc, .slice a6 H.length c6] 84)) := hV2
    have aV : Below w3.heap.size w3 V2 := by rw [hV2]; exact (Below.refl _ _).alloc (Nat.le_refl _) _
    have tV : Two V2 w3.heap.size (.int .i64 hc) (.slice a6 H.length c6) := by rw [hV2]; exact Two.new _ _ _ _
    have b3 := K2.out.1.trans (hb3.mono K2.out.1.size)
    have K3 : Hid (Below w.heap.size w V2 ∧ Three V2 w.heap.size (.int .i64 0) (.slice none 0 0) (.slice none 0 0) ∧ Two V2 w3.heap.size (.int .i64 hc) (.slice a6 H.length c6) ∧ OwnH V2 w2.heap.size (.slice a6 H.length c6) H ∧ w.heap.size < w2.heap.size) := ⟨b3.trans (aV.mono b3.size), (K2.out.2.keep hb3).keep aV, tV, ho.below aV, K2.out.2.lt⟩
    have C4 := headError_any E hc V2 (HE0.out V2 K3.out.1) hcodes
    clear C3 hb3 K2 ho hi6 aV tV b3 hV2 hH hhc
    generalize w2.heap.size = B8 at *
    try clear w2
    obtain ⟨t0, t1, _, _⟩ := K3.out.2.2.1
    rw [HV2.out] at t0 t1
    by_cases h0 : hc = 0
    · subst h0
      rw [errV0] at C4
      have HH0 : Hid (headsC H = 0) := by
        have := read_okH HHC.out.1
        rw [HHC.out.2] at this
        exact this
      obtain ⟨h20, hsz⟩ := heads_sizes HH0.out
      clear hsz hcodes
      have HRD : Hid (readHC (hmk (restP d)) = 0 ∧ readHL (hmk (restP d)) = H) := by
        have := HHC.out
        rw [← HRS.out] at this
        exact this
      have C5 := statusIn_any E ln V2 (HE0.out V2 K3.out.1)
      cases hlk : lineOk ln with
      | false =>
        have HE : Hid (R = (5, rp0)) := by show _ = _; rw [HRR.out]; exact readP_line H8.out HCL.out HRD.out.1 (by rw [HLN.out]; exact hlk)
        have e1 : stV ln = 0 := by unfold stV; rw [if_neg (by rw [hlk]; decide)]
        have e2 : errV E (stC ln) = .iface 230 (.pointer (some E.u)) := by unfold stC; rw [if_neg (by rw [hlk]; decide)]; rfl
        rw [e1, e2] at C5
        clear HRR HHC HRD HRS HLN hlk e1 e2
        go_wp2_with fail
        rw [← HV2.out]
        refine C4.mono ?_
        rintro e w4 ⟨rfl, hw⟩
        obtain rfl := hw.symm
        clear hw C4 t0 t1 HV2
        go_wp2_with fail
        refine C5.mono ?_
        rintro e w5 ⟨rfl, hb5⟩
        have K5 : Hid (Below w.heap.size w w5 ∧ Three w5 w.heap.size (.int .i64 0) (.slice none 0 0) (.slice none 0 0)) := ⟨K3.out.1.trans (hb5.mono K3.out.1.size), K3.out.2.1.keep hb5⟩
        clear C5 hb5 K3
        obtain ⟨r0, r1, r2, rf, _⟩ := K5.out.2
        have rf0 := rf 0
        have rf1 := rf 1
        have rf2 := rf 2
        clear rf
        go_wp2_with fail
        have T2 := three_put (v0 := .int .i64 0) (v1 := .slice none 0 0) (v2 := .slice none 0 0) K5.out.2
        have BZ := Below.put3 (v0 := .int .i64 0) (v1 := .slice none 0 0) (v2 := .slice none 0 0) K5.out.1 (Nat.le_refl _)
        unfold put3 at T2
        exact bodyPost_ret (v := .tuple #[.agg #[.int .i64 0, .slice none 0 0, .slice none 0 0], .iface 230 (.pointer (some E.u))]) (by simp [results, Tryz.results44, go_sem, T2.c0, T2.c1, T2.c2]) rfl ⟨by rw [HE.out]; exact PIn.bad (by decide) rfl, BZ⟩
      | true =>
        have e1 : stV ln = valD (ln.drop 9) := by unfold stV; rw [if_pos hlk]
        have e2 : errV E (stC ln) = .nilIface := by unfold stC; rw [if_pos hlk]; rfl
        rw [e1, e2] at C5
        have er : respOf d = ⟨valD (ln.drop 9), H, bodyP d⟩ := by rw [respOf, HRD.out.2, HLN.out]
        obtain ⟨st, hst⟩ : ∃ st, valD (ln.drop 9) = st := ⟨_, rfl⟩
        have HG : Hid ((rpC ⟨st, H, bodyP d⟩ = 0 → R = (0, ⟨st, H, bodyP d⟩)) ∧ (¬ rpC ⟨st, H, bodyP d⟩ = 0 → R = (rpC ⟨st, H, bodyP d⟩, rp0))) := by
          rw [hst] at er
          refine ⟨fun hq => ?_, fun hq => ?_⟩
          · rw [HRR.out, readP_ok H8.out HCL.out HRD.out.1 (by rw [HLN.out]; exact hlk) (by rw [er]; exact hq), er]
          · rw [HRR.out, readP_fault H8.out HCL.out HRD.out.1 (by rw [HLN.out]; exact hlk) (by rw [er]; exact hq), er]
        rw [hst] at C5
        clear HRR HHC HRD HRS HLN hlk e1 e2 er hst
        go_wp2_with fail
        rw [← HV2.out]
        refine C4.mono ?_
        rintro e w4 ⟨rfl, hw⟩
        obtain rfl := hw.symm
        clear hw C4 t0 t1 HV2
        go_wp2_with fail
        refine C5.mono ?_
        rintro e w5 ⟨rfl, hb5⟩
        have K5 : Hid (Below w.heap.size w w5 ∧ Three w5 w.heap.size (.int .i64 0) (.slice none 0 0) (.slice none 0 0) ∧ Two w5 w3.heap.size (.int .i64 0) (.slice a6 H.length c6) ∧ OwnH w5 B8 (.slice a6 H.length c6) H ∧ w.heap.size < B8) := ⟨K3.out.1.trans (hb5.mono K3.out.1.size), K3.out.2.1.keep hb5, K3.out.2.2.1.keep hb5, K3.out.2.2.2.1.below hb5, K3.out.2.2.2.2⟩
        clear C5 hb5 K3
        generalize w3.heap.size = B3 at *
        try clear V2
        try clear w3
        obtain ⟨Cc, bk, hcv, hbm⟩ := bytes_of_text w5 bt
        obtain ⟨X, hX⟩ : ∃ X, X = w5.drew.alloc (.cells Cc 5 (Cc.size, Cc.size + 1)) := ⟨_, rfl⟩
        have aX : Below w5.heap.size w5 X := by rw [hX]; exact ((Below.refl _ _).drew).alloc (Nat.le_refl _) _
        rw [← hX] at hcv hbm
        rw [HBT.out] at hbm
        obtain ⟨g, hg⟩ : ∃ g, w5.heap.size = g := ⟨_, rfl⟩
        obtain ⟨bn, hbn⟩ : ∃ bn, bt.size = bn := ⟨_, rfl⟩
        have HBN : Hid ((bodyP d).length = bn) := by show _ = _; rw [← hbn, ← HBT.out, hsize_list]
        obtain ⟨hn, hhn⟩ : ∃ hn, H.length = hn := ⟨_, rfl⟩
        have HHN : Hid (H.length = hn) := hhn
        have K6 : Hid (Below w.heap.size w X ∧ Three X w.heap.size (.int .i64 0) (.slice none 0 0) (.slice none 0 0) ∧ OwnH X B8 (.slice a6 hn c6) H ∧ BMine X g (bodyP d) ∧ w.heap.size < B8 ∧ w.heap.size < g) := ⟨K5.out.1.trans (aX.mono K5.out.1.size), K5.out.2.1.keep aX, by rw [← hhn]; exact K5.out.2.2.2.1.below aX, by rw [← hg]; exact hbm, K5.out.2.2.2.2, by rw [← hg]; exact K5.out.2.1.lt⟩
        obtain ⟨t0, t1, _, _⟩ := K5.out.2.2.1
        rw [hhn] at t1 ⊢
        rw [hg, hbn] at hcv
        clear hbm hX aX hbn hhn
        go_wp2_with fail
        obtain ⟨Y, hY⟩ : ∃ Y, Y = X.alloc (.cells #[.int .i64 st, .slice a6 hn c6, .slice (some ⟨g, 0, none⟩) bn bk] 32) := ⟨_, rfl⟩
        have HY : Hid (Y = X.alloc (.cells #[.int .i64 st, .slice a6 hn c6, .slice (some ⟨g, 0, none⟩) bn bk] 32)) := hY
        have aY : Below X.heap.size X Y := by rw [hY]; exact (Below.refl _ _).alloc (Nat.le_refl _) _
        have f6 : Three Y X.heap.size (.int .i64 st) (.slice a6 hn c6) (.slice (some ⟨g, 0, none⟩) bn bk) := by rw [hY]; exact Three.new _ _ _ _ _
        have hB8 : w.heap.size + 1 ≤ B8 := K6.out.2.2.2.2.1
        have KS : Hid (PQS w st (.slice a6 hn c6) (.slice (some ⟨g, 0, none⟩) bn bk) (w.heap.size + 1) H (bodyP d) X.heap.size Y) := ⟨K6.out.1.trans (aY.mono K6.out.1.size), f6, (K6.out.2.2.1.below aY).lower hB8, .inr ⟨g, bk, by rw [HBN.out], K6.out.2.2.2.2.2, K6.out.2.2.2.1.keep aY⟩, Nat.lt_succ_self _, K6.out.2.1.lt, ⟨_, _, _, K6.out.2.1.keep aY⟩⟩
        have HRE : Hid (∀ Z, PQS w st (.slice a6 hn c6) (.slice (some ⟨g, 0, none⟩) bn bk) (w.heap.size + 1) H (bodyP d) X.heap.size Z → Calls Tryz.prog 41 #[.agg #[.int .i64 st, .slice a6 hn c6, .slice (some ⟨g, 0, none⟩) bn bk]] Z fun e w' => e = .returned (errV E (respC st H bn)) ∧ Below Z.heap.size Z w') := fun Z h => by
          have := implRespE_any E Z st a6 c6 H (some ⟨g, 0, none⟩) bn bk (by omega) (by rw [← HBN.out, ← HBT.out, hsize_list]; omega) (HS.out Z h.b).1 (HE0.out Z h.b) (own_in h.own).2
          rw [HHN.out] at this
          exact this
        have HG2 : Hid ((respC st H bn = 0 → R = (0, ⟨st, H, bodyP d⟩)) ∧ (¬ respC st H bn = 0 → R = (respC st H bn, rp0))) := by
          have hg2 := HG.out
          have e : rpC ⟨st, H, bodyP d⟩ = respC st H bn := by rw [← HBN.out]; rfl
          rw [e] at hg2
          exact hg2
        have HKS : Hid (∀ Z, PQS w st (.slice a6 hn c6) (.slice (some ⟨g, 0, none⟩) bn bk) (w.heap.size + 1) H (bodyP d) X.heap.size Z → Z.cell? ⟨X.heap.size, 0, none⟩ = some (.int .i64 st) ∧ Z.cell? ⟨X.heap.size, 1, none⟩ = some (.slice a6 hn c6) ∧ Z.cell? ⟨X.heap.size, 2, none⟩ = some (.slice (some ⟨g, 0, none⟩) bn bk)) := fun Z h => ⟨h.three.c0, h.three.c1, h.three.c2⟩
        have HPUT : Hid (∀ Z, PQS w st (.slice a6 hn c6) (.slice (some ⟨g, 0, none⟩) bn bk) (w.heap.size + 1) H (bodyP d) X.heap.size Z → PQS w st (.slice a6 hn c6) (.slice (some ⟨g, 0, none⟩) bn bk) (w.heap.size + 1) H (bodyP d) X.heap.size (put3 Z w.heap.size (.int .i64 st) (.slice a6 hn c6) (.slice (some ⟨g, 0, none⟩) bn bk)) ∧ Three (put3 Z w.heap.size (.int .i64 st) (.slice a6 hn c6) (.slice (some ⟨g, 0, none⟩) bn bk)) w.heap.size (.int .i64 st) (.slice a6 hn c6) (.slice (some ⟨g, 0, none⟩) bn bk)) := fun Z h => h.put _ _ _
        have HRC : Hid (∀ Z, PQS w st (.slice a6 hn c6) (.slice (some ⟨g, 0, none⟩) bn bk) (w.heap.size + 1) H (bodyP d) X.heap.size Z → ∃ u0 u1 u2, Three Z w.heap.size u0 u1 u2) := fun Z h => h.res
        obtain ⟨cq, hcq⟩ : ∃ cq, respC st H bn = cq := ⟨_, rfl⟩
        rw [hcq] at HRE HG2
        obtain ⟨ev, hev⟩ : ∃ ev, errV E cq = ev := ⟨_, rfl⟩
        have HEV : Hid (errV E cq = ev) := hev
        rw [hev] at HRE
        rw [← HY.out]
        clear K5 K6 hY aY f6 HG hcq hev HY hcv t0 t1 hg
        generalize X.heap.size = B12 at *
        try clear X
        have B0 : Hid (PQS w st (.slice a6 hn c6) (.slice (some ⟨g, 0, none⟩) bn bk) (w.heap.size + 1) H (bodyP d) B12 Y.drew) := KS.out.keep (Below.refl _ _).drew
        obtain ⟨u0, u1, u2, hu⟩ := HRC.out Y KS.out
        obtain ⟨s0, s1, s2, sf, _⟩ := hu
        have sf0 := sf 0
        have sf1 := sf 1
        have sf2 := sf 2
        clear sf KS
        go_wp2_with fail
        go_region_held3 (fun Z => Z.cell? ⟨B12, 0, none⟩ = some (.int .i64 st) ∧ Z.cell? ⟨B12, 1, none⟩ = some (.slice a6 hn c6) ∧ Z.cell? ⟨B12, 2, none⟩ = some (.slice (some ⟨g, 0, none⟩) bn bk))
          (first | exact HKS.out _ (HPUT.out _ BA.out).1 | exact HKS.out _ (HPUT.out _ B0.out).1 | exact HKS.out _ BA.out | exact HKS.out _ B0.out)
          (first
          | (go_at_call 41; (first | refine (HRE.out _ B0.out).mono ?_ | refine (HRE.out _ (HPUT.out _ B0.out).1).mono ?_); rintro e wa ⟨rfl, hba⟩; have BA : Hid (PQS w st (.slice a6 hn c6) (.slice (some ⟨g, 0, none⟩) bn bk) (w.heap.size + 1) H (bodyP d) B12 wa) := B0.out.keep hba; clear hba; obtain ⟨k0, k1, k2, hk⟩ := HRC.out wa BA.out; obtain ⟨n0, n1, n2, nf, _⟩ := hk; have nf0 := nf 0; have nf1 := nf 1; have nf2 := nf 2; clear nf))
        go_wp2_with fail
        have HP := HPUT.out _ BA.out
        have T2 := HP.2
        unfold put3 at T2
        refine bodyPost_ret (v := .tuple #[.agg #[.int .i64 st, .slice a6 hn c6, .slice (some ⟨g, 0, none⟩) bn bk], ev]) (by simp [results, Tryz.results44, go_sem, T2.c0, T2.c1, T2.c2]) rfl ⟨?_, HP.1.b⟩
        by_cases hq : cq = 0
        · rw [HG2.out.1 hq]
          exact ⟨st, a6, hn, c6, some ⟨g, 0, none⟩, bn, bk, by rw [← HEV.out, hq], fun _ => ⟨rfl, HP.1.own.lower (Nat.le_succ _), HP.1.ownb.lower (Nat.le_succ _)⟩⟩
        · rw [HG2.out.2 hq]
          exact PIn.bad hq HEV.out.symm
    · have HE : Hid (R = (hc, rp0)) := by
        show _ = _
        rw [HRR.out, readP_heads H8.out HCL.out (by rw [HRS.out, HHC.out.1]; exact h0), HRS.out, HHC.out.1]
      obtain ⟨ep, hep⟩ := errV_iface E hc h0
      have HEP : Hid (.iface 230 (.pointer (some ep)) = errV E hc) := hep.symm
      rw [hep] at C4
      clear HRR H8 HHC hep hcodes HRS HLN
      go_wp2_with fail
      rw [← HV2.out]
      refine C4.mono ?_
      rintro e w4 ⟨rfl, hw⟩
      obtain rfl := hw.symm
      clear hw C4
      obtain ⟨r0, r1, r2, rf, _⟩ := K3.out.2.1
      have rf0 := rf 0
      have rf1 := rf 1
      have rf2 := rf 2
      clear rf
      go_wp2_with fail
      have T2 := three_put (v0 := .int .i64 0) (v1 := .slice none 0 0) (v2 := .slice none 0 0) K3.out.2.1
      have BZ := Below.put3 (v0 := .int .i64 0) (v1 := .slice none 0 0) (v2 := .slice none 0 0) K3.out.1 (Nat.le_refl _)
      unfold put3 at T2
      exact bodyPost_ret (v := .tuple #[.agg #[.int .i64 0, .slice none 0 0, .slice none 0 0], .iface 230 (.pointer (some ep))]) (by simp [results, Tryz.results44, go_sem, T2.c0, T2.c1, T2.c2]) rfl ⟨by rw [HE.out]; exact PIn.bad h0 HEP.out, BZ⟩
  · have HE : Hid (R = (5, rp0)) := by show _ = _; rw [HRR.out]; exact readP_none h8 hcc
    have C := mcutC_no d W (HS.out W K0.out.1).2 (by omega) hcc
    clear HRR HS h8 hcc
    generalize hmk d = t at *
    go_enter Tryz.func44, Tryz.ntmps44
    go_wp2_with fail
    rw [← HW.out]
    refine C.mono ?_
    rintro e w1 ⟨rfl, hb1⟩
    have K1 : Hid (Below w.heap.size w w1 ∧ Three w1 w.heap.size (.int .i64 0) (.slice none 0 0) (.slice none 0 0)) := ⟨K0.out.1.trans (hb1.mono K0.out.1.size), K0.out.2.keep hb1⟩
    clear C hb1 K0 HW
    obtain ⟨r0, r1, r2, rf, _⟩ := K1.out.2
    have rf0 := rf 0
    have rf1 := rf 1
    have rf2 := rf 2
    clear rf
    have gU := (HE0.out w1 K1.out.1).gU
    go_wp2_with fail
    go_region
    have T2 := (three_put (v0 := .int .i64 0) (v1 := .slice none 0 0) (v2 := .slice none 0 0) K1.out.2).keep (Below.refl _ _).drew
    have BZ := (Below.put3 (v0 := .int .i64 0) (v1 := .slice none 0 0) (v2 := .slice none 0 0) K1.out.1 (Nat.le_refl _)).drew
    unfold put3 at T2
    go_wp2_with fail
    exact bodyPost_ret (v := .tuple #[.agg #[.int .i64 0, .slice none 0 0, .slice none 0 0], .iface 230 (.pointer (some E.u))]) (by simp [results, Tryz.results44, go_sem, T2.c0, T2.c1, T2.c2]) rfl ⟨by rw [HE.out]; exact PIn.bad (by decide) rfl, BZ⟩
end Go.Proofs.YtonnggelpjjmmaaGreatDoor
/-
  What ReadResponse answers.
-/
namespace Go.Proofs.YtonnggelpjjmmaaGreatDoor
open Go.ChangeShapes Go.WideShapes Go.ChangeAt Go.RowKit
theorem readP_codes (d : List UInt8) : (readP d).1 = 0 ∨ (readP d).1 = 2 ∨ (readP d).1 = 3 ∨ (readP d).1 = 5 ∨ (readP d).1 = 6 := by
  unfold readP
  split
  · simp
  · split
    · have h1 := readHC_codes (hmk (restP d))
      split
      · split
        · have h2 := respC_codes (respOf d).s (respOf d).l (respOf d).b.length
          split
          · simp
          · show rpC _ = 0 ∨ rpC _ = 2 ∨ rpC _ = 3 ∨ rpC _ = 5 ∨ rpC _ = 6
            unfold rpC
            omega
        · simp
      · show readHC _ = 0 ∨ readHC _ = 2 ∨ readHC _ = 3 ∨ readHC _ = 5 ∨ readHC _ = 6
        omega
    · simp
theorem readP_zero {d : List UInt8} (h : ¬ (readP d).1 = 0) : (readP d).2 = rp0 := by
  unfold readP at *
  split
  · rfl
  · rename_i h8
    rw [if_neg h8] at h
    split
    · rename_i hx
      rw [if_pos hx] at h
      split
      · rename_i h1
        rw [if_pos h1] at h
        split
        · rename_i h2
          rw [if_pos h2] at h
          split
          · rename_i h3
            rw [if_pos h3] at h
            exact absurd rfl h
          · rfl
        · rfl
      · rfl
    · rfl
set_option maxRecDepth 100000 in
set_option maxHeartbeats 8000000 in
theorem implReadP_any (E : Errs) (w : World) (a : Option Addr) (cap : Nat) (d : List UInt8) (hd : d.length ≤ 1048576) (hset : SetIs w) (hE : ErrsIs w E) (hmx : MaxIs w) (hi : BIn w a d) :
    Calls Tryz.prog 17 #[.slice a d.length cap] w fun e w' => PGot (readP d).1 (readP d).2 w.heap.size e w' ∧ Below w.heap.size w w' := by
  obtain ⟨W, hW⟩ : ∃ W, W = w.alloc (.cells #[.int .i64 0, .int .i64 0, .slice none 0 0, .slice none 0 0] 42) := ⟨_, rfl⟩
  have HW : Hid (W = w.alloc (.cells #[.int .i64 0, .int .i64 0, .slice none 0 0, .slice none 0 0] 42)) := hW
  have bW : Below w.heap.size w W := by rw [hW]; exact (Below.refl _ _).alloc (Nat.le_refl _) _
  have f0 : Four W w.heap.size (.int .i64 0) (.int .i64 0) (.slice none 0 0) (.slice none 0 0) := by rw [hW]; exact Four.new _ _ _ _ _ _
  have hcv : (convert 22 9 (.slice a d.length cap)).run Tryz.prog W = .ok (.string (hmk d)) W := bytes_text cap (hi.keep bW)
  have K0 : Hid (Below w.heap.size w W ∧ Four W w.heap.size (.int .i64 0) (.int .i64 0) (.slice none 0 0) (.slice none 0 0)) := ⟨bW, f0⟩
  have HE0 : Hid (∀ X, Below w.heap.size w X → ErrsIs X E) := fun X hb => hE.below hb
  have HIN : Hid (¬ 10000 < d.length → Calls Tryz.prog 44 #[.string (hmk d)] W fun e w' => PIn E (readP d).1 (readP d).2 W.heap.size e w' ∧ Below W.heap.size W w') := fun h8 => implRespIn_any E W d h8 (hset.below bW) (hE.below bW) (hmx.below bW)
  have hcodes := readP_codes d
  have HZ : Hid (¬ (readP d).1 = 0 → (readP d).2 = rp0) := readP_zero
  have HLO : Hid (10000 < d.length → readP d = (2, rp0)) := readP_long
  obtain ⟨R, hR⟩ : ∃ R, R = readP d := ⟨_, rfl⟩
  rw [← hR] at hcodes HZ HIN HLO ⊢
  clear hR bW f0 hi hset hE hmx
  rw [hW] at hcv
  clear hW
  by_cases h8 : 10000 < d.length
  · have HE : Hid (R = (2, rp0)) := HLO.out h8
    have g8 : (10000 : Int) < d.length := by omega
    clear hcv K0 HZ HIN HLO hcodes
    generalize d.length = n at *
    go_enter Tryz.func17, Tryz.ntmps17
    go_wp2_with fail
    exact bodyPost_ret (v := .agg #[.int .i64 2, .int .i64 0, .slice none 0 0, .slice none 0 0]) (by simp [results, Tryz.results17, go_sem]) rfl ⟨by rw [HE.out]; exact PGot.zero _ _ _, (Below.refl _ _).alloc (Nat.le_refl _) _⟩
  · have g8 : ¬ (10000 : Int) < d.length := by omega
    have C := HIN.out h8
    clear HIN HLO h8
    generalize hmk d = t at *
    generalize d.length = n at *
    go_enter Tryz.func17, Tryz.ntmps17
    go_wp2_with fail
    rw [← HW.out]
    refine C.mono ?_
    rintro e w1 ⟨⟨s, a1, n1, k1, b1, m1, l1, rfl, hq⟩, hb1⟩
    have HQ : Hid (R.1 = 0 → R.2.s = s ∧ OwnH w1 W.heap.size (.slice a1 n1 k1) R.2.l ∧ BOwn w1 W.heap.size (.slice b1 m1 l1) R.2.b) := hq
    obtain ⟨V, hV⟩ : ∃ V, V = w1.alloc (.cells #[.int .i64 s, .slice a1 n1 k1, .slice b1 m1 l1] 32) := ⟨_, rfl⟩
    have HV : Hid (V = w1.alloc (.cells #[.int .i64 s, .slice a1 n1 k1, .slice b1 m1 l1] 32)) := hV
    have aV : Below w1.heap.size w1 V := by rw [hV]; exact (Below.refl _ _).alloc (Nat.le_refl _) _
    have fV : Three V w1.heap.size (.int .i64 s) (.slice a1 n1 k1) (.slice b1 m1 l1) := by rw [hV]; exact Three.new _ _ _ _ _
    have bb1 := K0.out.1.trans (hb1.mono K0.out.1.size)
    have K1 : Hid (Below w.heap.size w V ∧ Four V w.heap.size (.int .i64 0) (.int .i64 0) (.slice none 0 0) (.slice none 0 0) ∧ Three V w1.heap.size (.int .i64 s) (.slice a1 n1 k1) (.slice b1 m1 l1) ∧ Below w1.heap.size w1 V ∧ w.heap.size < W.heap.size) := ⟨bb1.trans (aV.mono bb1.size), (K0.out.2.keep hb1).keep aV, fV, aV, K0.out.2.lt⟩
    clear C hb1 K0 HW hcv hq hV aV fV bb1
    obtain ⟨r0, r1, r2, r3, rf, _⟩ := K1.out.2.1
    have rf0 := rf 0
    have rf1 := rf 1
    have rf2 := rf 2
    have rf3 := rf 3
    clear rf
    obtain ⟨c, hc⟩ : ∃ c, R.1 = c := ⟨_, rfl⟩
    have HC : Hid (R.1 = c) := hc
    rw [hc] at HZ HQ hcodes ⊢
    clear hc
    by_cases h0 : c = 0
    · subst h0
      rw [errV0]
      obtain ⟨e1, e4, e5⟩ := HQ.out rfl
      have HRE : Hid (R.1 = 0 ∧ R.2.s = s ∧ OwnH V W.heap.size (.slice a1 n1 k1) R.2.l ∧ BOwn V W.heap.size (.slice b1 m1 l1) R.2.b) := ⟨HC.out, e1, e4.below K1.out.2.2.2.1, e5.keep K1.out.2.2.2.1⟩
      obtain ⟨q0, q1, q2, _, _⟩ := K1.out.2.2.1
      rw [HV.out] at r0 r1 r2 r3 rf0 rf1 rf2 rf3 q0 q1 q2
      clear HZ HQ HC hcodes e1 e4 e5
      go_wp2_with fail
      rw [← HV.out]
      have T2 := four_put (v0 := .int .i64 0) (v1 := .int .i64 s) (v2 := .slice a1 n1 k1) (v3 := .slice b1 m1 l1) K1.out.2.1
      have HO := ownH_put4 (v0 := .int .i64 0) (v1 := .int .i64 s) (v2 := .slice a1 n1 k1) (v3 := .slice b1 m1 l1) HRE.out.2.2.1 K1.out.2.2.2.2
      have HP := bown_put4 (v0 := .int .i64 0) (v1 := .int .i64 s) (v2 := .slice a1 n1 k1) (v3 := .slice b1 m1 l1) HRE.out.2.2.2 K1.out.2.2.2.2
      unfold put4 at T2
      exact bodyPost_ret (v := .agg #[.int .i64 0, .int .i64 s, .slice a1 n1 k1, .slice b1 m1 l1]) (by simp [results, Tryz.results17, go_sem, T2.c0, T2.c1, T2.c2, T2.c3]) rfl ⟨⟨_, _, _, _, _, _, by rw [HRE.out.1, HRE.out.2.1], HO.lower (Nat.le_of_lt K1.out.2.2.2.2), HP.lower (Nat.le_of_lt K1.out.2.2.2.2)⟩, Below.put4 K1.out.1 (Nat.le_refl _)⟩
    · have C2 := codeOf_any E c V (HE0.out V K1.out.1) hcodes
      have HRE : Hid (R = (c, rp0)) := by
        show _ = _
        rw [← HC.out, ← HZ.out h0]
      obtain ⟨ep, hep⟩ := errV_iface E c h0
      rw [hep] at C2 ⊢
      rw [HV.out] at r0 r1 r2 r3 rf0 rf1 rf2 rf3
      clear HZ HQ HC hcodes hep
      go_wp2_with fail
      rw [← HV.out]
      refine C2.mono ?_
      rintro e w2 ⟨rfl, hw⟩
      obtain rfl := hw.symm
      rw [← HV.out] at r0 r1 r2 r3 rf0 rf1 rf2 rf3
      clear hw C2 HV
      go_wp2_with fail
      have T2 := four_put (v0 := .int .i64 c) (v1 := .int .i64 0) (v2 := .slice none 0 0) (v3 := .slice none 0 0) K1.out.2.1
      unfold put4 at T2
      exact bodyPost_ret (v := .agg #[.int .i64 c, .int .i64 0, .slice none 0 0, .slice none 0 0]) (by simp [results, Tryz.results17, go_sem, T2.c0, T2.c1, T2.c2, T2.c3]) rfl ⟨by rw [HRE.out]; exact PGot.zero _ _ _, Below.put4 K1.out.1 (Nat.le_refl _)⟩
end Go.Proofs.YtonnggelpjjmmaaGreatDoor
/-
  What SameRequests and its model answer.
-/
namespace Go.Proofs.YtonnggelpjjmmaaGreatDoor
open Go.ChangeShapes Go.WideShapes Go.ChangeAt Go.RowKit
def sameQ (m h p : ByteArray) (l : List Hdr) (m' h' p' : ByteArray) (l' : List Hdr) : Bool := (m.toList == m'.toList) && (h.toList == h'.toList) && (p.toList == p'.toList) && sameHs l l'
set_option maxHeartbeats 4000000 in
theorem implSameQ_any (w : World) (m h p : ByteArray) (a : Option Addr) (ca : Nat) (l : List Hdr) (m' h' p' : ByteArray) (b : Option Addr) (cb : Nat) (l' : List Hdr) (hl : l.length ≤ 1048576) (h1 : HdsIn w a l) (h2 : HdsIn w b l') :
    Calls Tryz.prog 16 #[.agg #[.string m, .string h, .string p, .slice a l.length ca], .agg #[.string m', .string h', .string p', .slice b l'.length cb]] w fun e w' => e = .returned (.bool (sameQ m h p l m' h' p' l')) ∧ Below w.heap.size w w' := by
  have HE : Hid (sameQ m h p l m' h' p' l' = ((m.toList == m'.toList) && (h.toList == h'.toList) && (p.toList == p'.toList) && sameHs l l')) := rfl
  have bV : Below w.heap.size w ((w.alloc (.cells #[.string m, .string h, .string p, .slice a l.length ca] 26)).alloc (.cells #[.string m', .string h', .string p', .slice b l'.length cb] 26)) := ((Below.refl _ _).alloc (Nat.le_refl _) _).alloc (by simp) _
  have C := implSameH_any _ a b ca cb l l' hl (h1.keep bV) (h2.keep bV)
  have HB : Hid (Below w.heap.size w ((w.alloc (.cells #[.string m, .string h, .string p, .slice a l.length ca] 26)).alloc (.cells #[.string m', .string h', .string p', .slice b l'.length cb] 26))) := bV
  clear bV h1 h2
  generalize sameHs l l' = sb at *
  generalize sameQ m h p l m' h' p' l' = q at *
  generalize l.length = n at *
  generalize l'.length = n' at *
  cases c1 : (m.toList == m'.toList)
  · have HV : Hid (q = false) := by show _ = _; rw [HE.out, c1]; rfl
    clear HE C
    go_enter Tryz.func16, Tryz.ntmps16
    go_wp2_with fail
    go_ret
    exact ⟨ret_bool HV.out.symm, HB.out⟩
  cases c2 : (h.toList == h'.toList)
  · have HV : Hid (q = false) := by show _ = _; rw [HE.out, c1, c2]; rfl
    clear HE C
    go_enter Tryz.func16, Tryz.ntmps16
    go_wp2_with fail
    go_ret
    exact ⟨ret_bool HV.out.symm, HB.out⟩
  cases c3 : (p.toList == p'.toList)
  · have HV : Hid (q = false) := by show _ = _; rw [HE.out, c1, c2, c3]; rfl
    clear HE C
    go_enter Tryz.func16, Tryz.ntmps16
    go_wp2_with fail
    go_ret
    exact ⟨ret_bool HV.out.symm, HB.out⟩
  have HV : Hid (q = sb) := by show _ = _; rw [HE.out, c1, c2, c3]; rfl
  clear HE
  go_enter Tryz.func16, Tryz.ntmps16
  go_wp2_with fail
  refine C.mono ?_
  rintro e w1 ⟨rfl, hb1⟩
  have HB1 : Hid (Below w.heap.size w w1) := HB.out.trans (hb1.mono HB.out.size)
  clear hb1 C HB
  go_wp2_with fail
  go_ret
  exact ⟨ret_bool HV.out.symm, HB1.out⟩
end Go.Proofs.YtonnggelpjjmmaaGreatDoor
/-
  The law of messages, out of contracts.
-/
namespace Go.Proofs.YtonnggelpjjmmaaGreatDoor
open Go.ChangeShapes Go.WideShapes Go.ChangeAt Go.RowKit Go.Sort
namespace msgs
theorem qfield_code (c : Int) (m h p : ByteArray) (a : Option Addr) (n k : Nat) (w : World) : (Instr.field 38 (.agg #[.int .i64 c, .string m, .string h, .string p, .slice a n k]) 0).run Tryz.prog w = .ok (.int .i64 c) w := by kernel_rfl
theorem qfield_req (c : Int) (m h p : ByteArray) (a : Option Addr) (n k : Nat) (w : World) : (Instr.field 38 (.agg #[.int .i64 c, .string m, .string h, .string p, .slice a n k]) 1).run Tryz.prog w = .ok (.agg #[.string m, .string h, .string p, .slice a n k]) w := by kernel_rfl
theorem pfield_code (c s : Int) (a : Option Addr) (n k : Nat) (b : Option Addr) (bn bk : Nat) (w : World) : (Instr.field 42 (.agg #[.int .i64 c, .int .i64 s, .slice a n k, .slice b bn bk]) 0).run Tryz.prog w = .ok (.int .i64 c) w := by kernel_rfl
theorem pfield_resp (c s : Int) (a : Option Addr) (n k : Nat) (b : Option Addr) (bn bk : Nat) (w : World) : (Instr.field 42 (.agg #[.int .i64 c, .int .i64 s, .slice a n k, .slice b bn bk]) 1).run Tryz.prog w = .ok (.agg #[.int .i64 s, .slice a n k, .slice b bn bk]) w := by kernel_rfl
theorem same_refl : ∀ l : List Hdr, sameHs l l = true
  | [] => rfl
  | r :: l => by simp [sameHs, sameH, same_refl l]
theorem sameQ_refl (m h p : ByteArray) (l : List Hdr) : sameQ m h p l m h p l = true := by simp [sameQ, same_refl]
theorem sameP_refl (s : Int) (l : List Hdr) (b : List UInt8) : sameP s l b s l b = true := by simp [sameP, same_refl]
theorem own_in2 {w : World} {base : Nat} {a : Option Addr} {n c : Nat} {L : List Hdr} (h : OwnH w base (.slice a n c) L) : n = L.length ∧ HdsIn w a L ∧ L.length ≤ c := by
  have h0 := h
  obtain ⟨a', c', e, hi⟩ := h.at
  simp only [Value.slice.injEq] at e
  refine ⟨e.2.1, by rw [e.1]; exact hi, ?_⟩
  obtain ⟨_, h | ⟨g, c2, cur, e2, _, _, hc, _⟩⟩ := h0
  · have := h.2; omega
  · simp only [Value.slice.injEq] at e2
    rw [e2.2.2]; exact hc
theorem bown_in {w : World} {base : Nat} {a : Option Addr} {n c : Nat} {l : List UInt8} (h : BOwn w base (.slice a n c) l) : n = l.length ∧ BIn w a l := by
  obtain ⟨a', k, e, hi⟩ := h.shape
  simp only [Value.slice.injEq] at e
  exact ⟨e.2.1, by rw [e.1]; exact hi⟩
structure TB (w : World) (b : Nat) (c : Int) (v : Value) : Prop where
  c0 : w.cell? ⟨b, 0, none⟩ = some (.int .i64 c)
  c1 : w.cell? ⟨b, 1, none⟩ = some v
theorem TB.keep {w w' : World} {b : Nat} {c : Int} {v : Value} (h : TB w b c v) (hb : Below w.heap.size w w') : TB w' b c v :=
  ⟨by rw [hb.cell (p := ⟨b, 0, none⟩) (block_lt_of_cell h.c0), h.c0], by rw [hb.cell (p := ⟨b, 1, none⟩) (block_lt_of_cell h.c1), h.c1]⟩
theorem tb_new (w : World) (c : Int) (a : Option Addr) (n k : Nat) (t : TypeId) : TB (w.alloc (.cells #[.int .i64 c, .slice a n k] t)) w.heap.size c (.slice a n k) := ⟨by simp, by simp⟩
/-- What was drawn and packed, wherever the world stands. -/
structure FM (w : World) (R : Nat) (m h p : ByteArray) (va : Option Addr) (n vc : Nat) (L : List Hdr) (K : Nat) (ac : Int) (aa : Option Addr) (an ak : Nat) (al : List UInt8)
    (S : Nat) (s : Int) (ra : Option Addr) (rn rk : Nat) (RL : List Hdr) (g bn bk : Nat) (bl : List UInt8) (J : Nat) (bc : Int) (ba : Option Addr) (bbn bbk : Nat) (bbl : List UInt8) (X : World) : Prop where
  b : Below w.heap.size w X
  q : Four X R (.string m) (.string h) (.string p) (.slice va n vc)
  qi : HdsIn X va L
  k : TB X K ac (.slice aa an ak)
  ki : BIn X aa al
  p : Three X S (.int .i64 s) (.slice ra rn rk) (.slice (some ⟨g, 0, none⟩) bn bk)
  ri : HdsIn X ra RL
  bi : BIn X (some ⟨g, 0, none⟩) bl
  j : TB X J bc (.slice ba bbn bbk)
  ji : BIn X ba bbl
theorem FM.keep {w : World} {R : Nat} {m h p : ByteArray} {va : Option Addr} {n vc : Nat} {L : List Hdr} {K : Nat} {ac : Int} {aa : Option Addr} {an ak : Nat} {al : List UInt8} {S : Nat} {s : Int} {ra : Option Addr} {rn rk : Nat} {RL : List Hdr} {g bn bk : Nat} {bl : List UInt8} {J : Nat} {bc : Int} {ba : Option Addr} {bbn bbk : Nat} {bbl : List UInt8} {X Y : World}
    (f : FM w R m h p va n vc L K ac aa an ak al S s ra rn rk RL g bn bk bl J bc ba bbn bbk bbl X) (hb : Below X.heap.size X Y) : FM w R m h p va n vc L K ac aa an ak al S s ra rn rk RL g bn bk bl J bc ba bbn bbk bbl Y :=
  ⟨f.b.trans (hb.mono f.b.size), f.q.keep hb, f.qi.keep hb, f.k.keep hb, f.ki.keep hb, f.p.keep hb, f.ri.keep hb, f.bi.keep hb, f.j.keep hb, f.ji.keep hb⟩
theorem reqL_len {m h p : ByteArray} {l : List Hdr} (c : reqC m h p l = 0) : (reqL m h p l).length ≤ 1048576 := by
  have := readQ_pack c
  by_cases hb : 8000 < (reqL m h p l).length
  · rw [readQ_long hb] at this
    simp at this
  · omega
theorem respL_len {s : Int} {l : List Hdr} {b : List UInt8} (c : respC s l b.length = 0) : (respL s l b).length ≤ 1048576 := by
  have := readP_pack c
  by_cases hb : 10000 < (respL s l b).length
  · rw [readP_long hb] at this
    simp at this
  · omega
set_option maxRecDepth 100000 in
set_option maxHeartbeats 16000000 in
theorem fnMessages_walk (E : Errs) (w : World) (a : Option Addr) (len cap : Nat) (hc : CodeRow w w.heap.size a len) (hset : SetIs w) (hE : ErrsIs w E) (hmax : MaxIs w) (hpow : num.PowIs w) :
    Calls Tryz.prog 3 #[.slice a len cap] w fun e w' => e = .returned (.bool true) ∧ Below w.heap.size w w' := by
  have HENV : Hid (∀ W, Below w.heap.size w W → SetIs W ∧ ErrsIs W E ∧ MaxIs W ∧ num.PowIs W ∧ CodeRow W W.heap.size a len) := fun W hb => ⟨hset.below hb, hE.below hb, hmax.below hb, hpow.below hb, (hc.below hb).mono hb.size⟩
  clear hset hE hmax hpow
  by_cases hbig : (1048576 : Int) < len
  · clear hc
    go_enter Tryz.func3, Tryz.ntmps3
    go_wp2
    go_ret
    exact ⟨rfl, Below.refl _ _⟩
  have hl2 : len ≤ 1048576 := by omega
  have HD := drawPackRequest_any w a len cap hc hl2
  clear hc
  go_enter Tryz.func3, Tryz.ntmps3
  go_wp2_with (go_at_call 6; go_in)
  refine HD.mono ?_
  rintro e w1 ⟨⟨m, h, p, va, vc, L, rfl, _, _, hp, ho, hL, _⟩, hb1⟩
  obtain ⟨_, hqi, hcap⟩ := own_in2 ho
  obtain ⟨n, hn⟩ : ∃ n, Hid (L.length = n) := ⟨_, rfl⟩
  rw [hn.out]
  have al1 : Below w1.heap.size w1 (w1.alloc (.cells #[.string m, .string h, .string p, .slice va n vc] 26)) := (Below.refl _ _).alloc (Nat.le_refl _) _
  obtain ⟨v1, hv1⟩ : ∃ X, Hid (X = w1.alloc (.cells #[.string m, .string h, .string p, .slice va n vc] 26)) := ⟨_, rfl⟩
  have F1 : Hid (Below w.heap.size w v1 ∧ Four v1 w1.heap.size (.string m) (.string h) (.string p) (.slice va n vc) ∧ HdsIn v1 va L) := by
    rw [hv1.out]
    exact ⟨hb1.trans (al1.mono hb1.size), Four.new w1 _ _ _ _ _, hqi.keep al1⟩
  have CP : Hid (∀ X, Below w.heap.size w X → HdsIn X va L → Calls Tryz.prog 8 #[.agg #[.string m, .string h, .string p, .slice va n vc]] X fun e w' => BGot (reqC m h p L) (reqB m h p L) X.heap.size e w' ∧ Below X.heap.size X w') := fun X hb hi => by
    obtain ⟨e1, e2, _⟩ := HENV.out X hb
    have := implPackReq_in E X m h p va vc L (by omega) hcap (by omega) e1 e2 hi
    rw [hn.out] at this
    exact this
  have CQS : Hid (∀ X, HdsIn X va L → Calls Tryz.prog 11 #[.agg #[.string m, .string h, .string p, .slice va n vc]] X fun e w' => e = .returned (.int .i64 (reqC m h p L)) ∧ Below X.heap.size X w') := fun X hi => by
    have := specReq_any X m h p va vc L (by omega) hi
    rw [hn.out] at this
    exact this
  have CQI : Hid (∀ X, Below w.heap.size w X → HdsIn X va L → Calls Tryz.prog 12 #[.agg #[.string m, .string h, .string p, .slice va n vc]] X fun e w' => e = .returned (.int .i64 (reqC m h p L)) ∧ Below X.heap.size X w') := fun X hb hi => by
    obtain ⟨e1, e2, _⟩ := HENV.out X hb
    have := implReq_any E X m h p va vc L (by omega) hcap (by omega) e1 e2 hi
    rw [hn.out] at this
    exact this
  have CQE : Hid (∀ X xa xn xk base, OwnH X base (.slice xa xn xk) L → HdsIn X va L → Calls Tryz.prog 16 #[.agg #[.string m, .string h, .string p, .slice xa xn xk], .agg #[.string m, .string h, .string p, .slice va n vc]] X fun e w' => e = .returned (.bool true) ∧ Below X.heap.size X w') := fun X xa xn xk base ho hi => by
    obtain ⟨e1, e2, _⟩ := own_in2 ho
    subst e1
    have := implSameQ_any X m h p xa xk L m h p va vc L (by omega) e2 hi
    rw [sameQ_refl] at this
    rw [← hn.out]
    exact this
  clear hqi al1 hb1 ho HD
  have H1 := CP.out v1 F1.out.1 F1.out.2.2
  go_wp2_with fail
  rw [← hv1.out]
  clear hv1
  generalize w1.heap.size = R at *
  clear w1
  refine H1.mono ?_
  rintro e w2 ⟨⟨aa, an, ak, rfl, hao⟩, hb2⟩
  obtain ⟨ac, hac⟩ : ∃ c, Hid (reqC m h p L = c) := ⟨_, rfl⟩
  obtain ⟨al, hal⟩ : ∃ c, Hid (reqB m h p L = c) := ⟨_, rfl⟩
  rw [hac.out] at CQS CQI
  rw [hac.out]
  rw [hal.out] at hao
  have hall : al.length ≤ 1048576 := by
    rw [← hal.out]
    unfold reqB
    split
    · rename_i hr
      exact reqL_len hr
    · simp
  obtain ⟨ean, hai⟩ := bown_in hao
  have CRQ : Hid (ac = 0 → ∀ X, Below w.heap.size w X → BIn X aa al → Calls Tryz.prog 15 #[.slice aa an ak] X fun e w' => (∃ xa xn xk, e = .returned (.agg #[.int .i64 0, .string m, .string h, .string p, .slice xa xn xk]) ∧ OwnH w' 0 (.slice xa xn xk) L) ∧ Below X.heap.size X w') := fun h0 X hb hi => by
    obtain ⟨e1, e2, e3, _⟩ := HENV.out X hb
    have := implReadQ_any E X aa ak al hall e1 e2 e3 hi
    have er : readQ al = (0, ⟨m, h, p, L⟩) := by
      have hr : reqC m h p L = 0 := by rw [hac.out, h0]
      rw [← hal.out, reqB, if_pos hr]
      exact readQ_pack hr
    rw [er, ← ean] at this
    refine this.mono ?_
    rintro e w' ⟨⟨v, rfl, ho⟩, hb⟩
    obtain ⟨xa, xk, rfl, _⟩ := ho.at
    exact ⟨⟨xa, _, xk, rfl, ho.lower (Nat.zero_le _)⟩, hb⟩
  have al2 : Below w2.heap.size w2 (w2.alloc (.cells #[.int .i64 ac, .slice aa an ak] 29)) := (Below.refl _ _).alloc (Nat.le_refl _) _
  obtain ⟨v2, hv2⟩ : ∃ X, Hid (X = w2.alloc (.cells #[.int .i64 ac, .slice aa an ak] 29)) := ⟨_, rfl⟩
  have F2 : Hid (Below w.heap.size w v2 ∧ Four v2 R (.string m) (.string h) (.string p) (.slice va n vc) ∧ HdsIn v2 va L ∧ TB v2 w2.heap.size ac (.slice aa an ak) ∧ BIn v2 aa al) := by
    rw [hv2.out]
    have b2 := F1.out.1.trans (hb2.mono F1.out.1.size)
    exact ⟨b2.trans (al2.mono b2.size), (F1.out.2.1.keep hb2).keep al2, (F1.out.2.2.keep hb2).keep al2, tb_new w2 ac aa an ak _, hai.keep al2⟩
  have H2 := drawPackResponse_any v2 a len cap (HENV.out v2 F2.out.1).2.2.2.2 hl2
  clear F1 hb2 al2 hao hai H1 CP hac hal hall ean hcap hp
  go_wp2_with fail
  rw [← hv2.out]
  clear hv2
  generalize w2.heap.size = K at *
  clear w2 v1
  refine H2.mono ?_
  rintro e w3 ⟨⟨s, ra, rk, RL, g, bk, bl, rfl, ho, hRL, hsm3, hg3, hm, hbl⟩, hb3⟩
  clear hsm3 hg3
  obtain ⟨_, hri, _⟩ := own_in2 ho
  obtain ⟨rn, hrn⟩ : ∃ n, Hid (RL.length = n) := ⟨_, rfl⟩
  obtain ⟨bn, hbn⟩ : ∃ n, Hid (bl.length = n) := ⟨_, rfl⟩
  rw [hrn.out, hbn.out]
  have al3 : Below w3.heap.size w3 (w3.alloc (.cells #[.int .i64 s, .slice ra rn rk, .slice (some ⟨g, 0, none⟩) bn bk] 32)) := (Below.refl _ _).alloc (Nat.le_refl _) _
  obtain ⟨v3, hv3⟩ : ∃ X, Hid (X = w3.alloc (.cells #[.int .i64 s, .slice ra rn rk, .slice (some ⟨g, 0, none⟩) bn bk] 32)) := ⟨_, rfl⟩
  have F3 : Hid (Below w.heap.size w v3 ∧ Four v3 R (.string m) (.string h) (.string p) (.slice va n vc) ∧ HdsIn v3 va L ∧ TB v3 K ac (.slice aa an ak) ∧ BIn v3 aa al ∧ Three v3 w3.heap.size (.int .i64 s) (.slice ra rn rk) (.slice (some ⟨g, 0, none⟩) bn bk) ∧ HdsIn v3 ra RL ∧ BIn v3 (some ⟨g, 0, none⟩) bl) := by
    rw [hv3.out]
    have b3 := F2.out.1.trans (hb3.mono F2.out.1.size)
    exact ⟨b3.trans (al3.mono b3.size), (F2.out.2.1.keep hb3).keep al3, (F2.out.2.2.1.keep hb3).keep al3, (F2.out.2.2.2.1.keep hb3).keep al3, (F2.out.2.2.2.2.keep hb3).keep al3, Three.new w3 _ _ _ _, hri.keep al3, hm.in.keep al3⟩
  have CRS : Hid (∀ X, HdsIn X ra RL → Calls Tryz.prog 13 #[.agg #[.int .i64 s, .slice ra rn rk, .slice (some ⟨g, 0, none⟩) bn bk]] X fun e w' => e = .returned (.int .i64 (respC s RL bl.length)) ∧ Below X.heap.size X w') := fun X hi => by
    have := specResp_any X s ra rk RL (some ⟨g, 0, none⟩) bl.length bk (by omega) (by omega) hi
    rw [hrn.out] at this
    rw [← hbn.out]
    exact this
  have CRI : Hid (∀ X, Below w.heap.size w X → HdsIn X ra RL → Calls Tryz.prog 14 #[.agg #[.int .i64 s, .slice ra rn rk, .slice (some ⟨g, 0, none⟩) bn bk]] X fun e w' => e = .returned (.int .i64 (respC s RL bl.length)) ∧ Below X.heap.size X w') := fun X hb hi => by
    obtain ⟨e1, e2, _⟩ := HENV.out X hb
    have := implResp_any E X s ra rk RL (some ⟨g, 0, none⟩) bl.length bk (by omega) (by omega) e1 e2 hi
    rw [hrn.out] at this
    rw [← hbn.out]
    exact this
  have H3 : Calls Tryz.prog 10 #[.agg #[.int .i64 s, .slice ra rn rk, .slice (some ⟨g, 0, none⟩) bn bk]] v3 fun e w' => BGot (respC s RL bl.length) (respB s RL bl) v3.heap.size e w' ∧ Below v3.heap.size v3 w' := by
    obtain ⟨e1, e2, _, e4, _⟩ := HENV.out v3 F3.out.1
    have := implPackResp_in E v3 s ra rk RL (some ⟨g, 0, none⟩) bk bl (by omega) (by omega) e1 e2 e4 F3.out.2.2.2.2.2.2.1 F3.out.2.2.2.2.2.2.2
    rw [hrn.out] at this
    rw [← hbn.out]
    exact this
  have CPE : Hid (∀ X xa xn xk ya yn yk base, OwnH X base (.slice xa xn xk) RL → BOwn X base (.slice ya yn yk) bl → HdsIn X ra RL → BIn X (some ⟨g, 0, none⟩) bl → Calls Tryz.prog 18 #[.agg #[.int .i64 s, .slice xa xn xk, .slice ya yn yk], .agg #[.int .i64 s, .slice ra rn rk, .slice (some ⟨g, 0, none⟩) bn bk]] X fun e w' => e = .returned (.bool true) ∧ Below X.heap.size X w') := fun X xa xn xk ya yn yk base h1 h2 h3 h4 => by
    obtain ⟨e1, e2, _⟩ := own_in2 h1
    obtain ⟨e3, e4⟩ := bown_in h2
    subst e1
    subst e3
    have := implSameP_any X s xa xk RL ya yk bl s ra rk RL (some ⟨g, 0, none⟩) bk bl (by omega) e2 h3 e4 h4
    rw [sameP_refl] at this
    rw [← hrn.out, ← hbn.out]
    exact this
  have CPF : Hid (∀ X xa xn xk ya yn yk base, OwnH X base (.slice xa xn xk) RL → BOwn X base (.slice ya yn yk) bl → HdsIn X ra RL → BIn X (some ⟨g, 0, none⟩) bl → Calls Tryz.prog 19 #[.agg #[.int .i64 s, .slice xa xn xk, .slice ya yn yk], .agg #[.int .i64 s, .slice ra rn rk, .slice (some ⟨g, 0, none⟩) bn bk]] X fun e w' => e = .returned (.bool true) ∧ Below X.heap.size X w') := fun X xa xn xk ya yn yk base h1 h2 h3 h4 => by
    obtain ⟨e1, e2, _⟩ := own_in2 h1
    obtain ⟨e3, e4⟩ := bown_in h2
    subst e1
    subst e3
    have := specSameP_any X s xa xk RL ya yk bl s ra rk RL (some ⟨g, 0, none⟩) bk bl (by omega) e2 h3 e4 h4
    rw [sameP_refl] at this
    rw [← hrn.out, ← hbn.out]
    exact this
  clear F2 hb3 al3 ho hm hri H2
  go_wp2_with fail
  rw [← hv3.out]
  clear hv3
  generalize w3.heap.size = S at *
  clear w3 v2
  refine H3.mono ?_
  rintro e w4 ⟨⟨ba, bbn, bbk, rfl, hbo⟩, hb4⟩
  obtain ⟨bc, hbc⟩ : ∃ c, Hid (respC s RL bl.length = c) := ⟨_, rfl⟩
  obtain ⟨bbl, hbbl⟩ : ∃ c, Hid (respB s RL bl = c) := ⟨_, rfl⟩
  rw [hbc.out] at CRS CRI
  rw [hbc.out]
  rw [hbbl.out] at hbo
  have hbbll : bbl.length ≤ 1048576 := by
    rw [← hbbl.out]
    unfold respB
    split
    · rename_i hr
      exact respL_len hr
    · simp
  obtain ⟨ebn, hbi⟩ := bown_in hbo
  have CRP : Hid (bc = 0 → ∀ X, Below w.heap.size w X → BIn X ba bbl → Calls Tryz.prog 17 #[.slice ba bbn bbk] X fun e w' => (∃ xa xn xk ya yn yk, e = .returned (.agg #[.int .i64 0, .int .i64 s, .slice xa xn xk, .slice ya yn yk]) ∧ OwnH w' 0 (.slice xa xn xk) RL ∧ BOwn w' 0 (.slice ya yn yk) bl) ∧ Below X.heap.size X w') := fun h0 X hb hi => by
    obtain ⟨e1, e2, e3, _⟩ := HENV.out X hb
    have := implReadP_any E X ba bbk bbl hbbll e1 e2 e3 hi
    have er : readP bbl = (0, ⟨s, RL, bl⟩) := by
      have hr : respC s RL bl.length = 0 := by rw [hbc.out, h0]
      rw [← hbbl.out, respB, if_pos hr]
      exact readP_pack hr
    rw [er, ← ebn] at this
    refine this.mono ?_
    rintro e w' ⟨⟨xa, xn, xk, ya, yn, yk, rfl, ho, hy⟩, hb⟩
    exact ⟨⟨xa, xn, xk, ya, yn, yk, rfl, ho.lower (Nat.zero_le _), hy.lower (Nat.zero_le _)⟩, hb⟩
  have al4 : Below w4.heap.size w4 (w4.alloc (.cells #[.int .i64 bc, .slice ba bbn bbk] 29)) := (Below.refl _ _).alloc (Nat.le_refl _) _
  obtain ⟨W, hW⟩ : ∃ X, Hid (X = w4.alloc (.cells #[.int .i64 bc, .slice ba bbn bbk] 29)) := ⟨_, rfl⟩
  have F4 : Hid (FM w R m h p va n vc L K ac aa an ak al S s ra rn rk RL g bn bk bl w4.heap.size bc ba bbn bbk bbl W) := by
    rw [hW.out]
    have b4 := F3.out.1.trans (hb4.mono F3.out.1.size)
    obtain ⟨_, f2, f3, f4, f5, f6, f7, f8⟩ := F3.out
    exact ⟨b4.trans (al4.mono b4.size), (f2.keep hb4).keep al4, (f3.keep hb4).keep al4, (f4.keep hb4).keep al4, (f5.keep hb4).keep al4, (f6.keep hb4).keep al4, (f7.keep hb4).keep al4, (f8.keep hb4).keep al4, tb_new w4 bc ba bbn bbk _, hbi.keep al4⟩
  clear F3 hb4 al4 hbo hbi H3 hbc hbbl hbbll ebn hrn hbn HENV
  go_upto_region 7 with fail
  rw [← hW.out]
  clear hW
  generalize w4.heap.size = J at *
  clear w4 v3
  have HK : Hid (∀ X, Below W.heap.size W X → FM w R m h p va n vc L K ac aa an ak al S s ra rn rk RL g bn bk bl J bc ba bbn bbk bbl X) := fun X hb => F4.out.keep hb
  clear F4
  go_cut [42] from 17 to 42 (fun s42 wx => s42 = .bool false ∧ Below W.heap.size W wx)
  case first =>
    have HKS : Hid (∀ X, Below W.heap.size W X → X.cell? ⟨R, 0, none⟩ = some (.string m) ∧ X.cell? ⟨R, 1, none⟩ = some (.string h) ∧ X.cell? ⟨R, 2, none⟩ = some (.string p) ∧ X.cell? ⟨R, 3, none⟩ = some (.slice va n vc) ∧ X.cell? ⟨K, 0, none⟩ = some (.int .i64 ac) ∧ X.cell? ⟨S, 0, none⟩ = some (.int .i64 s) ∧ X.cell? ⟨S, 1, none⟩ = some (.slice ra rn rk) ∧ X.cell? ⟨S, 2, none⟩ = some (.slice (some ⟨g, 0, none⟩) bn bk) ∧ X.cell? ⟨J, 0, none⟩ = some (.int .i64 bc)) := fun X hb => by
      have f := HK.out X hb
      exact ⟨f.q.c0, f.q.c1, f.q.c2, f.q.c3, f.k.c0, f.p.c0, f.p.c1, f.p.c2, f.j.c0⟩
    have B0 : Hid (Below W.heap.size W W.drew) := (Below.refl _ _).drew
    go_region_held3 (fun X => X.cell? ⟨R, 0, none⟩ = some (.string m) ∧ X.cell? ⟨R, 1, none⟩ = some (.string h) ∧ X.cell? ⟨R, 2, none⟩ = some (.string p) ∧ X.cell? ⟨R, 3, none⟩ = some (.slice va n vc) ∧ X.cell? ⟨K, 0, none⟩ = some (.int .i64 ac) ∧ X.cell? ⟨S, 0, none⟩ = some (.int .i64 s) ∧ X.cell? ⟨S, 1, none⟩ = some (.slice ra rn rk) ∧ X.cell? ⟨S, 2, none⟩ = some (.slice (some ⟨g, 0, none⟩) bn bk) ∧ X.cell? ⟨J, 0, none⟩ = some (.int .i64 bc))
      (first | exact HKS.out _ BD.out | exact HKS.out _ BC.out | exact HKS.out _ BB.out | exact HKS.out _ BA.out | exact HKS.out _ B0.out)
      (first
      | (go_at_call 11; refine (CQS.out _ (HK.out _ B0.out).qi).mono ?_; rintro e wa ⟨rfl, hba⟩; have BA : Hid (Below W.heap.size W wa) := B0.out.trans (hba.mono B0.out.size); clear hba)
      | (go_at_call 12; refine (CQI.out _ (HK.out _ BA.out).b (HK.out _ BA.out).qi).mono ?_; rintro e wb ⟨rfl, hbb⟩; have BB : Hid (Below W.heap.size W wb) := BA.out.trans (hbb.mono BA.out.size); clear hbb)
      | (go_at_call 13; refine (CRS.out _ (HK.out _ BB.out).ri).mono ?_; rintro e wd ⟨rfl, hbd⟩; have BC : Hid (Below W.heap.size W wd) := BB.out.trans (hbd.mono BB.out.size); clear hbd)
      | (go_at_call 14; refine (CRI.out _ (HK.out _ BC.out).b (HK.out _ BC.out).ri).mono ?_; rintro e we ⟨rfl, hbe⟩; have BD : Hid (Below W.heap.size W we) := BC.out.trans (hbe.mono BC.out.size); clear hbe))
    all_goals (go_wp2_with fail; go_meet; exact ⟨rfl, BD.out⟩)
  case rest =>
  obtain ⟨rfl, hbx⟩ := hcut
  have X1 : Hid (Below W.heap.size W wc) := hbx
  clear hbx CQS CQI CRS CRI
  go_wp2_with fail
  generalize wc = w1 at *
  go_cut [61] from 43 to 61 (fun s61 wx => s61 = .bool false ∧ Below W.heap.size W wx)
  case first =>
    have HKS : Hid (∀ X, Below W.heap.size W X → X.cell? ⟨R, 0, none⟩ = some (.string m) ∧ X.cell? ⟨R, 1, none⟩ = some (.string h) ∧ X.cell? ⟨R, 2, none⟩ = some (.string p) ∧ X.cell? ⟨R, 3, none⟩ = some (.slice va n vc) ∧ X.cell? ⟨K, 0, none⟩ = some (.int .i64 ac) ∧ X.cell? ⟨K, 1, none⟩ = some (.slice aa an ak)) := fun X hb => by
      have f := HK.out X hb
      exact ⟨f.q.c0, f.q.c1, f.q.c2, f.q.c3, f.k.c0, f.k.c1⟩
    have B0 : Hid (Below W.heap.size W w1.drew) := X1.out.trans ((Below.refl _ _).drew)
    by_cases h0 : ac = 0
    · subst h0
      have hf1 := qfield_code
      have hf2 := qfield_req
      go_region_held3 (fun X => X.cell? ⟨R, 0, none⟩ = some (.string m) ∧ X.cell? ⟨R, 1, none⟩ = some (.string h) ∧ X.cell? ⟨R, 2, none⟩ = some (.string p) ∧ X.cell? ⟨R, 3, none⟩ = some (.slice va n vc) ∧ X.cell? ⟨K, 0, none⟩ = some (.int .i64 0) ∧ X.cell? ⟨K, 1, none⟩ = some (.slice aa an ak))
        (first | exact HKS.out _ BC.out | exact HKS.out _ BB.out | exact HKS.out _ BA.out | exact HKS.out _ B0.out)
        (first
        | (go_at_call 16; refine (CQE.out _ ya yn yk 0 OY.out (HK.out _ BB.out).qi).mono ?_; rintro e wd ⟨rfl, hbd⟩; have BC : Hid (Below W.heap.size W wd) := BB.out.trans (hbd.mono BB.out.size); clear hbd)
        | (go_at_call 15; refine (CRQ.out (by first | rfl | trivial) _ (HK.out _ BA.out).b (HK.out _ BA.out).ki).mono ?_; rintro e wb ⟨⟨ya, yn, yk, rfl, hoy⟩, hbb⟩; have OY : Hid (OwnH wb 0 (.slice ya yn yk) L) := hoy; have BB : Hid (Below W.heap.size W wb) := BA.out.trans (hbb.mono BA.out.size); clear hbb hoy)
        | (go_at_call 15; refine (CRQ.out (by first | rfl | trivial) _ (HK.out _ B0.out).b (HK.out _ B0.out).ki).mono ?_; rintro e wa ⟨⟨xa, xn, xk, rfl, _⟩, hba⟩; have BA : Hid (Below W.heap.size W wa) := B0.out.trans (hba.mono B0.out.size); clear hba))
      all_goals (go_wp2_with fail; go_meet; exact ⟨rfl, BC.out⟩)
    · have hn0 : (ac == 0) = false := by simpa using h0
      have r0 := cell_regrown (HKS.out _ X1.out).2.2.2.2.1
      have hn1 : decide (ac = 0) = false := by simpa using h0
      refine wp_region_quiet_below (by kernel_rfl) (by kernel_rfl) ?_
      repeat (go_big_quiet_step (first | fail))
      refine wpQuiet_nil ?_
      intro W3 hW3
      have hbW : Below w1.heap.size w1 W3 := by
        obtain ⟨⟨d', os⟩, rfl⟩ := hW3
        exact below_regrown w1 d' os
      have BW : Hid (Below W.heap.size W W3) := X1.out.trans (hbW.mono X1.out.size)
      clear hW3 hbW r0
      go_wp2_with fail
      go_meet
      exact ⟨rfl, BW.out⟩
  case rest =>
  obtain ⟨rfl, hbx⟩ := hcut
  have X2 : Hid (Below W.heap.size W wc) := hbx
  clear hbx X1 CRQ CQE
  clear w1
  go_wp2_with fail
  generalize wc = w2 at *
  have HKS : Hid (∀ X, Below W.heap.size W X → X.cell? ⟨S, 0, none⟩ = some (.int .i64 s) ∧ X.cell? ⟨S, 1, none⟩ = some (.slice ra rn rk) ∧ X.cell? ⟨S, 2, none⟩ = some (.slice (some ⟨g, 0, none⟩) bn bk) ∧ X.cell? ⟨J, 0, none⟩ = some (.int .i64 bc) ∧ X.cell? ⟨J, 1, none⟩ = some (.slice ba bbn bbk)) := fun X hb => by
    have f := HK.out X hb
    exact ⟨f.p.c0, f.p.c1, f.p.c2, f.j.c0, f.j.c1⟩
  have B0 : Hid (Below W.heap.size W w2.drew) := X2.out.trans ((Below.refl _ _).drew)
  by_cases h0 : bc = 0
  · subst h0
    have hf1 := pfield_code
    have hf2 := pfield_resp
    go_region_held3 (fun X => X.cell? ⟨S, 0, none⟩ = some (.int .i64 s) ∧ X.cell? ⟨S, 1, none⟩ = some (.slice ra rn rk) ∧ X.cell? ⟨S, 2, none⟩ = some (.slice (some ⟨g, 0, none⟩) bn bk) ∧ X.cell? ⟨J, 0, none⟩ = some (.int .i64 0) ∧ X.cell? ⟨J, 1, none⟩ = some (.slice ba bbn bbk))
      (first | exact HKS.out _ BE.out | exact HKS.out _ BD.out | exact HKS.out _ BC.out | exact HKS.out _ BB.out | exact HKS.out _ BA.out | exact HKS.out _ B0.out)
      (first
      | (go_at_call 19; refine (CPF.out _ za zn zk zb zbn zbk 0 OZ.out PZ.out (HK.out _ BD.out).ri (HK.out _ BD.out).bi).mono ?_; rintro e wf ⟨rfl, hbf⟩; have BE : Hid (Below W.heap.size W wf) := BD.out.trans (hbf.mono BD.out.size); clear hbf)
      | (go_at_call 17; refine (CRP.out (by first | rfl | trivial) _ (HK.out _ BC.out).b (HK.out _ BC.out).ji).mono ?_; rintro e we ⟨⟨za, zn, zk, zb, zbn, zbk, rfl, hoz, hpz⟩, hbe⟩; have OZ : Hid (OwnH we 0 (.slice za zn zk) RL) := hoz; have PZ : Hid (BOwn we 0 (.slice zb zbn zbk) bl) := hpz; have BD : Hid (Below W.heap.size W we) := BC.out.trans (hbe.mono BC.out.size); clear hbe hoz hpz)
      | (go_at_call 18; refine (CPE.out _ ya yn yk yb ybn ybk 0 OY.out PY.out (HK.out _ BB.out).ri (HK.out _ BB.out).bi).mono ?_; rintro e wd ⟨rfl, hbd⟩; have BC : Hid (Below W.heap.size W wd) := BB.out.trans (hbd.mono BB.out.size); clear hbd)
      | (go_at_call 17; refine (CRP.out (by first | rfl | trivial) _ (HK.out _ BA.out).b (HK.out _ BA.out).ji).mono ?_; rintro e wb ⟨⟨ya, yn, yk, yb, ybn, ybk, rfl, hoy, hpy⟩, hbb⟩; have OY : Hid (OwnH wb 0 (.slice ya yn yk) RL) := hoy; have PY : Hid (BOwn wb 0 (.slice yb ybn ybk) bl) := hpy; have BB : Hid (Below W.heap.size W wb) := BA.out.trans (hbb.mono BA.out.size); clear hbb hoy hpy)
      | (go_at_call 17; refine (CRP.out (by first | rfl | trivial) _ (HK.out _ B0.out).b (HK.out _ B0.out).ji).mono ?_; rintro e wa ⟨⟨xa, xn, xk, xb, xbn, xbk, rfl, _, _⟩, hba⟩; have BA : Hid (Below W.heap.size W wa) := B0.out.trans (hba.mono B0.out.size); clear hba))
    all_goals (go_wp2_with fail; go_ret; exact ⟨rfl, (HK.out _ BE.out).b⟩)
  · have hn0 : (bc != 0) = true := by simpa using h0
    have r0 := cell_regrown (HKS.out _ X2.out).2.2.2.1
    refine wp_region_quiet_below (by kernel_rfl) (by kernel_rfl) ?_
    repeat (go_big_quiet_step (first | fail))
    refine wpQuiet_nil ?_
    intro W3 hW3
    have hbW : Below w2.heap.size w2 W3 := by
      obtain ⟨⟨d', os⟩, rfl⟩ := hW3
      exact below_regrown w2 d' os
    have BW : Hid (Below W.heap.size W W3) := X2.out.trans (hbW.mono X2.out.size)
    clear hW3 hbW r0
    go_wp2_with fail
    go_ret
    exact ⟨rfl, (HK.out _ BW.out).b⟩
end msgs
end Go.Proofs.YtonnggelpjjmmaaGreatDoor
