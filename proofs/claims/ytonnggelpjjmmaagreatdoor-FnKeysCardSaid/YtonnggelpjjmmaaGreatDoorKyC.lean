/-
  Texts of one claim, one behind the other.
-/
import Derived.BigQuiet
import Derived.Deep.CutRange
import Derived.Deep.RegionHeld3
import Derived.Deep.RegionWith
import Derived.Lib.QuietBelow
import Derived.Lib.Split
import Derived.Lib.SplitLaws
import Derived.Maps.AppendAt
import Derived.Shelf.Sort.Plain
import Derived.Shelf.Strings.Cut
import Derived.Shelf.Strings.FieldsFuncAny
import Derived.Shelf.Strings.Prefix
import Derived.Sort.OwnSorted
import Derived.StillTail
import Derived.Test.YtonnggelpjjmmaaGreatDoorKyB
/-
  The draw of a request and of names.
-/
namespace Go.Proofs.YtonnggelpjjmmaaGreatDoor
open Go.ChangeShapes Go.WideShapes Go.ChangeAt Go.RowKit
theorem OwnS.apart {B : Nat} {w w' : World} {base : Nat} {v : Value} {l : List ByteArray} (h : OwnS w base v l) (ha : ApartH B w w') (hB : B < base) : OwnS w' base v l := by
  obtain ⟨h1, h2⟩ := h
  refine ⟨h1, ?_⟩
  rcases h2 with h2 | ⟨g, c, cur, e, hg, hh, hrest⟩
  · exact .inl h2
  · exact .inr ⟨g, c, cur, e, hg, by rw [ha.block g (Array.getElem?_eq_some_iff.1 hh).1 (by omega)]; exact hh, hrest⟩
theorem OwnS.put {w : World} {base B o : Nat} {v x : Value} {l : List ByteArray} (h : OwnS w base v l) (hB : B < base) : OwnS (w.setCell ⟨B, o, none⟩ x) base v l := by
  obtain ⟨h1, h2⟩ := h
  refine ⟨h1, ?_⟩
  rcases h2 with h2 | ⟨g, c, cur, e, hg, hh, hrest⟩
  · exact .inl h2
  · exact .inr ⟨g, c, cur, e, hg, by rw [setCell_block (by show g ≠ B; omega)]; exact hh, hrest⟩
theorem OwnS.made0 (w : World) (base : Nat) (hb : base ≤ w.heap.size) : OwnS (w.alloc (.cells #[] 9)) base (.slice (some ⟨w.heap.size, 0, none⟩) 0 0) [] := World.ownsRow_made w #[] 0 hb (by unfold maxLen; omega) rfl
theorem OwnS.tin {w : World} {base : Nat} {v : Value} {l : List ByteArray} (h : OwnS w base v l) : ∃ a c, v = .slice a l.length c ∧ TIn w a l := by
  by_cases hl : l = []
  · subst hl
    obtain ⟨_, h1 | ⟨g, c, cur, rfl, _⟩⟩ := h
    · exact ⟨none, 0, h1.1, .inl rfl⟩
    · exact ⟨_, c, rfl, .inl rfl⟩
  · obtain ⟨g, c, rfl⟩ := h.isS hl
    exact ⟨_, c, rfl, .inr ⟨g, 0, rfl, fun i x hx => by rw [Nat.zero_add]; exact h.cellAt i x hx⟩⟩
def SmallT (L : List ByteArray) : Prop := ∀ x ∈ L, x.size ≤ 1100
theorem SmallT.nil : SmallT [] := fun r h => by simp at h
theorem SmallT.snoc {L : List ByteArray} {x : ByteArray} (h : SmallT L) (h1 : x.size ≤ 1100) : SmallT (L ++ [x]) := fun q hq => by
  rcases List.mem_append.1 hq with hq | hq
  · exact h q hq
  · simp only [List.mem_singleton] at hq; subst hq; exact h1
/-- A drawn request and drawn names. -/
def SomeFull (base : Nat) (e : Ending) (w : World) : Prop := ∃ m h p va vc L na nc T, e = .returned (.tuple #[.agg #[.string m, .string h, .string p, .slice va (List.length L) vc], .slice na (List.length T) nc]) ∧ m.size ≤ 1100 ∧ h.size ≤ 1100 ∧ p.size ≤ 1100 ∧ OwnH w base (.slice va (List.length L) vc) L ∧ L.length ≤ 21 ∧ SmallH L ∧ OwnS w base (.slice na (List.length T) nc) T ∧ T.length ≤ 5 ∧ SmallT T
set_option maxRecDepth 100000 in
set_option maxHeartbeats 8000000 in
theorem drawFullKey_any (w : World) (a : Option Addr) (len cap : Nat) (hc : CodeRow w w.heap.size a len) (hl2 : len ≤ 1048576) :
    Calls Tryz.prog 24 #[.slice a len cap] w fun e w' => SomeFull w.heap.size e w' ∧ Below w.heap.size w w' := by
  have al : Below w.heap.size w (w.alloc (.cells #[.string ⟨#[]⟩, .string ⟨#[]⟩, .string ⟨#[]⟩, .slice none 0 0] 26)) := (Below.refl _ _).alloc (Nat.le_refl _) _
  have ez : (w.alloc (.cells #[.string ⟨#[]⟩, .string ⟨#[]⟩, .string ⟨#[]⟩, .slice none 0 0] 26)).heap.size = w.heap.size + 1 := by simp
  have HZ0 : Hid (Four (w.alloc (.cells #[.string ⟨#[]⟩, .string ⟨#[]⟩, .string ⟨#[]⟩, .slice none 0 0] 26)) w.heap.size (.string ⟨#[]⟩) (.string ⟨#[]⟩) (.string ⟨#[]⟩) (.slice none 0 0)) := Four.new w _ _ _ _ _
  have H1 := l1Source_any (w.alloc (.cells #[.string ⟨#[]⟩, .string ⟨#[]⟩, .string ⟨#[]⟩, .slice none 0 0] 26)) a len cap ((hc.below al).mono al.size)
  rw [ez] at H1
  have HAL : Hid (Below w.heap.size w (w.alloc (.cells #[.string ⟨#[]⟩, .string ⟨#[]⟩, .string ⟨#[]⟩, .slice none 0 0] 26))) := al
  clear hc al ez
  go_enter Tryz.func24, Tryz.ntmps24
  go_wp2_with fail
  refine H1.mono ?_
  rintro e w1 ⟨rfl, hs1, hb1⟩
  have hlt1 := hs1.lt
  have HS1 : Hid (Src (w1.alloc (.cells #[] 9)) (w.heap.size + 1) a len cap 0) := hs1.alloc _
  have HB1 : Hid (Below w.heap.size w (w1.alloc (.cells #[] 9))) := (HAL.out.trans (hb1.mono (Nat.le_succ _))).alloc (by omega) _
  have HZ1 : Hid (Four (w1.alloc (.cells #[] 9)) w.heap.size (.string ⟨#[]⟩) (.string ⟨#[]⟩) (.string ⟨#[]⟩) (.slice none 0 0)) := (HZ0.out.keepB (Nat.lt_succ_self _) hb1).keep ((Below.refl _ _).alloc (Nat.le_refl _) _)
  have HO1 : Hid (OwnS (w1.alloc (.cells #[] 9)) (w.heap.size + 2) (.slice (some ⟨w1.heap.size, 0, none⟩) 0 0) []) := OwnS.made0 w1 _ (by omega)
  obtain ⟨v1, hv1⟩ : ∃ X, Hid (X = w1.alloc (.cells #[] 9)) := ⟨_, rfl⟩
  rw [← hv1.out] at HS1 HB1 HZ1 HO1
  have H2 := l1Pick_h v1 (w.heap.size + 1) a len cap 0 HS1.out [0, 1, 2, 2, 4, 5] 6 rfl (by omega) (by omega) (by omega) hl2
  simp only [List.map_cons, List.map_nil] at H2
  clear hs1 hb1 H1 HAL HZ0
  go_upto_region 3 with fail
  rw [← hv1.out]
  clear hv1
  generalize w1.heap.size = G at *
  clear w1
  go_wp2_with fail
  refine H2.mono ?_
  rintro e w2 ⟨⟨q, hq, rfl⟩, hs2, hb2, ha2⟩
  obtain ⟨j0, rfl, hj0⟩ : ∃ j : Nat, q = (j : Int) ∧ j ≤ 5 := ⟨q.toNat, by simp at hq; omega, by simp at hq; omega⟩
  have HS2 : Hid (Src w2 (w.heap.size + 1) a len cap 1) := hs2
  have HB2 : Hid (Below w.heap.size w w2) := HB1.out.trans (hb2.mono (Nat.le_succ _))
  have HZ2 : Hid (Four w2 w.heap.size (.string ⟨#[]⟩) (.string ⟨#[]⟩) (.string ⟨#[]⟩) (.slice none 0 0)) := HZ1.out.keepB (Nat.lt_succ_self _) hb2
  have HO2 : Hid (OwnS w2 (w.heap.size + 2) (.slice (some ⟨G, 0, none⟩) 0 0) []) := HO1.out.apart ha2 (by omega)
  clear hs2 hb2 ha2 hq H2 HS1 HB1 HZ1 HO1
  go_wp2_with fail
  go_loopw [5, 6] (fun v x wr => ∃ (j : Nat) (L : List ByteArray) (k' : Nat), x = .int .i64 (j : Int) ∧ L.length + j ≤ 5 ∧ SmallT L ∧ OwnS wr (w.heap.size + 2) v L ∧ k' ≤ 1 + L.length ∧ Src wr (w.heap.size + 1) a len cap k' ∧ Below w.heap.size w wr ∧ Four wr w.heap.size (.string ⟨#[]⟩) (.string ⟨#[]⟩) (.string ⟨#[]⟩) (.slice none 0 0)) (fun _ x _ => (intOf x).toNat)
  case atStart => exact ⟨j0, [], 1, rfl, by simpa using hj0, SmallT.nil, HO2.out, by simp, HS2.out, HB2.out, HZ2.out⟩
  case round =>
    obtain ⟨j, L, k', rfl, hj, hL, hO, hk', hS, hB, hZ⟩ := hrel
    have KO : Hid (OwnS wr (w.heap.size + 2) u5 L) := hO
    have KL : Hid (SmallT L) := hL
    have KS : Hid (Src wr (w.heap.size + 1) a len cap k') := hS
    have KB : Hid (Below w.heap.size w wr) := hB
    have KZ : Hid (Four wr w.heap.size (.string ⟨#[]⟩) (.string ⟨#[]⟩) (.string ⟨#[]⟩) (.slice none 0 0)) := hZ
    clear hO hL hS hB hZ HS2 HB2 HZ2 HO2
    by_cases hj0 : 0 < j
    · have g : 0 < (j : Int) := by omega
      have H3 := l1Word_h wr (w.heap.size + 1) a len cap k' KS.out ([⟨#[65, 99, 99, 101, 112, 116]⟩, ⟨#[120, 45, 97]⟩, ⟨#[65, 99, 99, 101, 112, 116, 45, 76, 97, 110, 103, 117, 97, 103, 101]⟩, ⟨#[65, 99, 99, 101, 112, 116]⟩, ⟨#[120, 45, 97]⟩, ⟨#[86, 97, 114, 121]⟩, ⟨#[97, 32, 98]⟩] : List ByteArray) 7 rfl (by omega) (by omega) (by omega) hl2
      simp only [List.map_cons, List.map_nil] at H3
      go_wp2_with fail
      refine H3.mono ?_
      rintro e w5 ⟨⟨t, ht, rfl⟩, hs5, hb5, ha5⟩
      have htz := smallH_of ht (by decide)
      have KO5 : Hid (OwnS w5 (w.heap.size + 2) u5 L) := KO.out.apart ha5 (by omega)
      have KS5 : Hid (Src w5 (w.heap.size + 1) a len cap (k' + 1)) := hs5
      have KB5 : Hid (Below w.heap.size w w5) := KB.out.trans (hb5.mono (Nat.le_succ _))
      have KZ5 : Hid (Four w5 w.heap.size (.string ⟨#[]⟩) (.string ⟨#[]⟩) (.string ⟨#[]⟩) (.slice none 0 0)) := KZ.out.keepB (Nat.lt_succ_self _) hb5
      have KL5 : Hid (SmallT (L ++ [t])) := KL.out.snoc htz
      have hz5 : w.heap.size + 2 ≤ w5.heap.size := by have := hs5.lt; omega
      clear hs5 hb5 ha5 KO KS KB KZ KL ht H3
      go_wp2_with (at_builtin; refine wpList_append_str _ rfl (.tmp 17) (.tmp 21) rfl (w.heap.size + 2) _ L t rfl rfl KO5.out (by omega) hz5 ?_; intro v6 w6 HO6 hb6 hz6)
      go_roundw
      case rel => exact ⟨j - 1, L ++ [t], k' + 1, by congr 1; omega, by simp; omega, KL5.out, HO6, by simp; omega, KS5.out.below hb6, KB5.out.trans (hb6.mono (by omega)), KZ5.out.keepB (by omega) hb6⟩
      case measure => simp [intOf]; omega
    · obtain rfl : j = 0 := by omega
      obtain ⟨na, nc, rfl, _⟩ := KO.out.tin
      have H4 := l5Bent_any wr (w.heap.size + 1) a len cap k' KS.out (by omega) hl2
      have hzr := KS.out.lt
      generalize hTn : L.length = tn at *
      go_wp2_with fail
      refine H4.mono ?_
      rintro e w5 ⟨⟨m, h, p, va, vc, M, rfl, hm, hh, hp, ho, hM, hsm⟩, _, hb5, ha5⟩
      have KO5 : Hid (OwnS w5 (w.heap.size + 2) (.slice na tn nc) L) := KO.out.apart ha5 (by omega)
      have KB5 : Hid (Below w.heap.size w w5) := KB.out.trans (hb5.mono (Nat.le_succ _))
      have KM : Hid (OwnH w5 (w.heap.size + 2) (.slice va M.length vc) M) := ho.lower (by omega)
      have KZ5 : Hid (Four w5 w.heap.size (.string ⟨#[]⟩) (.string ⟨#[]⟩) (.string ⟨#[]⟩) (.slice none 0 0)) := KZ.out.keepB (Nat.lt_succ_self _) hb5
      have HSM : Hid (SmallH M) := hsm
      clear hb5 ha5 ho H4 KO KB KZ KS hsm
      generalize hMn : M.length = mn at *
      obtain ⟨r0, r1, r2, r3, rf, rl⟩ := KZ5.out
      have rf0 := rf 0
      have rf1 := rf 1
      have rf2 := rf 2
      have rf3 := rf 3
      clear rf rl KZ5
      go_wp2_with fail
      refine bodyPost_ret (v := .tuple #[.agg #[.string m, .string h, .string p, .slice va mn vc], .slice na tn nc]) ?_ rfl ⟨⟨m, h, p, va, vc, M, na, nc, L, by rw [hMn, hTn], hm, hh, hp, by rw [hMn]; exact ((((KM.out.put (by omega)).put (by omega)).put (by omega)).put (by omega)).lower (by omega), by omega, HSM.out, by rw [hTn]; exact ((((KO5.out.put (by omega)).put (by omega)).put (by omega)).put (by omega)).lower (by omega), by omega, KL.out⟩, (((KB5.out.setCell (by simp) _).setCell (by simp) _).setCell (by simp) _).setCell (by simp) _⟩
      simp [results, Tryz.results24, go_sem, r0, r1, r2, r3]
end Go.Proofs.YtonnggelpjjmmaaGreatDoor
/-
  What the model's l5Key answers.
-/
namespace Go.Proofs.YtonnggelpjjmmaaGreatDoor
open Go.ChangeShapes Go.WideShapes Go.ChangeAt Go.RowKit
/-- How many bytes lie ahead of the first '?'. -/
def qAt : List UInt8 → Nat
  | [] => 0
  | x :: l => if x = 63 then 0 else qAt l + 1
theorem qAt_le : ∀ l : List UInt8, qAt l ≤ l.length
  | [] => Nat.le_refl _
  | x :: l => by
    rw [qAt]
    split
    · exact Nat.zero_le _
    · have := qAt_le l; simp; omega
theorem qAt_stop : ∀ (l : List UInt8) (k : Nat) (h : k < l.length), k ≤ qAt l → l[k] = 63 → qAt l = k
  | [], k, h, _, _ => by simp at h
  | x :: l, 0, _, _, h63 => by
    have : x = 63 := h63
    rw [qAt, if_pos this]
  | x :: l, k + 1, h, hk, h63 => by
    rw [qAt] at hk ⊢
    split at hk
    · omega
    · rename_i hx
      rw [if_neg hx, qAt_stop l k (by simpa using h) (by omega) h63]
theorem qAt_on : ∀ (l : List UInt8) (k : Nat) (h : k < l.length), k ≤ qAt l → ¬ l[k] = 63 → k + 1 ≤ qAt l
  | [], k, h, _, _ => by simp at h
  | x :: l, 0, _, _, h63 => by
    have : ¬ x = 63 := h63
    rw [qAt, if_neg this]; omega
  | x :: l, k + 1, h, hk, h63 => by
    rw [qAt] at hk ⊢
    split at hk
    · omega
    · rename_i hx
      rw [if_neg hx]
      have := qAt_on l k (by simpa using h) (by omega) h63
      omega
/-- What stands behind the path in a key. -/
def keyQ (ps : List (List UInt8)) : List UInt8 := if ps = [] then [] else 63 :: Lib.join ps [38]
theorem keyQ_nil : keyQ [] = [] := rfl
theorem join_snoc (ps : List (List UInt8)) (x sep : List UInt8) (h : ps ≠ []) : Lib.join (ps ++ [x]) sep = Lib.join ps sep ++ sep ++ x := by
  cases ps with
  | nil => exact absurd rfl h
  | cons y ps => rw [List.cons_append, Lib.join_cons, Lib.join_cons]; simp [Lib.joinTail]
theorem keyQ_first (x : List UInt8) : keyQ [x] = 63 :: x := by simp [keyQ, Lib.join_one]
theorem keyQ_more (ps : List (List UInt8)) (x : List UInt8) (h : ps ≠ []) : keyQ (ps ++ [x]) = keyQ ps ++ 38 :: x := by
  rw [keyQ, if_neg (by simp), keyQ, if_neg h, join_snoc _ _ _ h]; simp
def keyParts (p : List UInt8) : List (List UInt8) := sortS (fullP (cutG 38 [] (p.drop (qAt p + 1))))
def keyT (h p : ByteArray) : List UInt8 := (lowS h).data.toList ++ p.data.toList.take (qAt p.data.toList) ++ keyQ (keyParts p.data.toList)
theorem keyParts_none (p : List UInt8) (h : qAt p = p.length) : keyParts p = [] := by
  rw [keyParts, h, List.drop_of_length_le (by omega)]; rfl
theorem fullP_take_on (l : List (List UInt8)) (k : Nat) (x : List UInt8) (h : l[k]? = some x) (hx : x ≠ []) : fullP (l.take (k + 1)) = fullP (l.take k) ++ [x] := by
  rw [List.take_add_one, h]; exact fullP_snoc _ _ hx
theorem fullP_take_nil (l : List (List UInt8)) (k : Nat) (h : l[k]? = some []) : fullP (l.take (k + 1)) = fullP (l.take k) := by
  rw [List.take_add_one, h]; exact fullP_snoc_nil _
theorem fullP_len (l : List (List UInt8)) : (fullP l).length ≤ l.length := List.length_filter_le _ _
theorem cutG_len (c : UInt8) : ∀ (l cur : List UInt8), (cutG c cur l).length ≤ l.length + 1
  | [], cur => by simp [cutG]
  | x :: l, cur => by
    rw [cutG]
    split
    · have := cutG_len c l []; simp; omega
    · have := cutG_len c l (cur ++ [x]); simp; omega
/-- All bytes of the pieces. -/
def sumL (ps : List (List UInt8)) : Nat := (ps.map List.length).sum
theorem cutG_sum (c : UInt8) : ∀ (l cur : List UInt8), sumL (cutG c cur l) ≤ l.length + cur.length
  | [], cur => by simp [cutG, sumL]
  | x :: l, cur => by
    rw [cutG]
    split
    · have := cutG_sum c l []; simp [sumL] at this ⊢; omega
    · have := cutG_sum c l (cur ++ [x]); simp [sumL] at this ⊢; omega
theorem fullP_sum : ∀ ps : List (List UInt8), sumL (fullP ps) ≤ sumL ps
  | [] => Nat.le_refl _
  | [] :: ps => by have := fullP_sum ps; rw [fullP_cons_nil]; simp [sumL] at this ⊢; omega
  | (x :: p) :: ps => by have := fullP_sum ps; rw [fullP_cons _ _ (by simp)]; simp [sumL] at this ⊢; omega
theorem sortS_sum (ps : List (List UInt8)) : sumL (sortS ps) = sumL ps := ((sortS_perm ps).map List.length).sum_nat
theorem keyParts_len (p : List UInt8) : (keyParts p).length ≤ p.length + 1 := by
  rw [keyParts, sortS_len]
  have h1 := fullP_len (cutG 38 [] (p.drop (qAt p + 1)))
  have h2 := cutG_len 38 (p.drop (qAt p + 1)) []
  rw [List.length_drop] at h2
  omega
theorem keyParts_sum (p : List UInt8) : sumL (keyParts p) ≤ p.length := by
  rw [keyParts, sortS_sum]
  have h1 := fullP_sum (cutG 38 [] (p.drop (qAt p + 1)))
  have h2 := cutG_sum 38 (p.drop (qAt p + 1)) []
  rw [List.length_drop] at h2
  simp only [List.length_nil] at h2
  omega
theorem keyQ_len (ps : List (List UInt8)) : (keyQ ps).length ≤ sumL ps + ps.length := by
  rw [keyQ]
  split
  · simp
  · rename_i h
    cases ps with
    | nil => exact absurd rfl h
    | cons x r =>
      rw [Lib.join_cons]
      have : ∀ r : List (List UInt8), (Lib.joinTail [38] r).length = sumL r + r.length := fun r => by
        induction r with
        | nil => rfl
        | cons y r ih => simp [Lib.joinTail, sumL] at ih ⊢; omega
      simp [this, sumL]; omega
theorem sumL_take (ps : List (List UInt8)) (k : Nat) : sumL (ps.take k) ≤ sumL ps := by
  have e := List.take_append_drop k ps
  have : sumL (ps.take k ++ ps.drop k) = sumL (ps.take k) + sumL (ps.drop k) := by simp only [sumL, List.map_append, List.sum_append_nat]
  rw [e] at this
  omega
theorem keyQ_take_len (ps : List (List UInt8)) (k : Nat) : (keyQ (ps.take k)).length ≤ sumL ps + ps.length := by
  have h1 := keyQ_len (ps.take k)
  have h2 := sumL_take ps k
  have h3 : (ps.take k).length ≤ ps.length := List.length_take_le' _ _
  omega
theorem sumL_get (ps : List (List UInt8)) (k : Nat) (x : List UInt8) (h : ps[k]? = some x) : x.length ≤ sumL ps := by
  have e := List.take_append_drop k ps
  have hk := (List.getElem?_eq_some_iff.1 h).1
  rw [List.drop_eq_getElem_cons hk, (List.getElem?_eq_some_iff.1 h).2] at e
  rw [← e]
  simp [sumL]; omega
theorem hmk_add (a b : List UInt8) : (hmk a ++ hmk b : ByteArray) = hmk (a ++ b) := by
  apply ByteArray.ext
  apply Array.ext'
  rw [happ_list]; simp [hmk]
theorem hmk_of (s : ByteArray) : hmk s.data.toList = s := by cases s; simp [hmk]
/-- append of one text, where another row must stay. -/
theorem wpList_append_str_at {ops : Array Oper} {rest : List Oper} {o : Oper} {a : Act} {Q : Exit → Act → World → Prop} (w : World) (hgd : o.guard = none) (s x : Operand)
    (ho : o.op = .call { callee := .builtin .append, args := #[s, x], argTypes := #[46, 46] }) (base : Nat) (v : Value) (l : List ByteArray) (z : ByteArray)
    (hs : a.eval s = v) (hx : a.eval x = .slice (some ⟨w.heap.size, 0, none⟩) 1 1) (hown : OwnS w base v l) (hl : l.length ≤ 1000000) (hbase : base ≤ w.heap.size)
    (b6 : Nat) (v6 : Value) (l6 : List ByteArray) (h6 : OwnS w b6 v6 l6) (g6 : Nat) (hg6 : v6.ownBlock = some g6) (hne : v.ownBlock ≠ some g6)
    (h : ∀ v' w', OwnS w' base v' (l ++ [z]) → OwnS w' b6 v6 l6 → v'.ownBlock ≠ some g6 → Below base w w' → wpList Tryz.prog ops Q rest (a.put o.dst v') w') :
    wpList Tryz.prog ops Q (o :: rest) a (w.alloc (.cells #[.string z] 9)) := by
  obtain ⟨i0, hi, hz0, hz1, hz2⟩ := info_parts infoStr
  refine wpList_append_own_at _ hgd s x 46 ho base 9 i0 (.string ⟨#[]⟩) 1 16 Tryz.underlying46 hi hz0 hz1 hz2 rfl (by decide) v l.length (textsW l) hs (World.ownsRow.alloc hown _) ⟨w.heap.size, 0, none⟩ 1 1 [.string z] hx rfl ?_ ?_ ?_ ?_ ?_ ?_
  · intro j u hj
    match j, hj with
    | 0, hj => simp at hj; subst hj; simp [Addr.add]
  · intro u hu; simp at hu; subst hu; rfl
  · unfold maxLen; omega
  · omega
  · simp; omega
  · intro v' w' h1 h2 h3 h4
    have e : textsW (l ++ [z]) = textsW l ++ [Value.string z] := by simp [textsW]
    have hlt := (World.ownsRow.lt h6 g6 hg6).2
    refine h v' w' (by unfold OwnS; rw [e, List.length_append]; exact h1) ?_ ?_ ?_
    · exact World.ownsRow.kept (World.ownsRow.alloc h6 _) h2 (.inr (by rw [hg6]; exact fun e => hne e.symm))
    · rcases h4 with h4 | h4
      · rw [h4]; exact hne
      · rw [h4]
        intro e
        simp at e
        omega
    · exact ((Below.refl base w).alloc hbase _).grown h2 (by simp; omega) (fun q hq => own_geS hown q hq)
theorem hmk_eqE {x : List UInt8} (h : x ≠ []) : (hmk x).toList.isEmpty = false := by
  rw [Lib.toList_data]
  cases x with
  | nil => exact absurd rfl h
  | cons y x => rfl
theorem hmk_nilE {x : List UInt8} (h : x = []) : (hmk x).toList.isEmpty = true := by
  subst h; rw [Lib.toList_data]; rfl
theorem kext (p : ByteArray) (k : Nat) : (p.extract k p.size).data.toList = p.data.toList.drop k := by
  rw [hext_mk]
  show (List.take (p.size - k) (List.drop k p.data.toList)).toArray.toList = _
  rw [List.toList_toArray]
  exact List.take_of_length_le (by rw [List.length_drop, hsize_list]; omega)
set_option maxRecDepth 100000 in
set_option maxHeartbeats 8000000 in
theorem l5Key_any (w : World) (B : Nat) (m h p : ByteArray) (hv : Value) (F : Four w B (.string m) (.string h) (.string p) hv) (hh : h.size ≤ 60) (hp : p.size ≤ 100) :
    Calls Tryz.prog 98 #[.pointer (some ⟨B, 0, none⟩)] w fun e w' => e = .returned (.string (hmk (keyT h p))) ∧ Below w.heap.size w w' := by
  have HK : Hid (∀ X, Below w.heap.size w X → X.cell? ⟨B, 1, none⟩ = some (.string h) ∧ X.cell? ⟨B, 2, none⟩ = some (.string p)) := fun X hb => ⟨(F.keep hb).c1, (F.keep hb).c2⟩
  have hqs : qAt p.data.toList ≤ p.size := by have := qAt_le p.data.toList; rw [hsize_list] at this; exact this
  have HQ1 : Hid (∀ (k : Nat) (hk : k < p.size), k ≤ qAt p.data.toList → p[k] = 63 → qAt p.data.toList = k) := fun k hk => qAt_stop p.data.toList k (by rw [hsize_list]; exact hk)
  have HQ2 : Hid (∀ (k : Nat) (hk : k < p.size), k ≤ qAt p.data.toList → ¬ p[k] = 63 → k + 1 ≤ qAt p.data.toList) := fun k hk => qAt_on p.data.toList k (by rw [hsize_list]; exact hk)
  obtain ⟨q, hq⟩ : ∃ q, qAt p.data.toList = q := ⟨_, rfl⟩
  have HQE : Hid (qAt p.data.toList = q) := hq
  rw [hq] at hqs HQ1 HQ2
  clear F hq
  go_enter Tryz.func98, Tryz.ntmps98
  go_wp2_with fail
  go_loopw [3] (fun i wr => ∃ k : Nat, k ≤ q ∧ i = .int .i64 (k : Int) ∧ Below w.heap.size w wr) (fun i _ => q - (intOf i).toNat)
  case atStart => exact ⟨0, Nat.zero_le _, rfl, Below.refl _ _⟩
  case round =>
    obtain ⟨k, hk, rfl, hb⟩ := hrel
    obtain ⟨c1, c2⟩ := HK.out wr hb
    have HB : Hid (Below w.heap.size w wr) := hb
    clear hb
    have hne : k ≠ q ∨ k = q := by omega
    rcases hne with hne | hkq
    · have hks : k < p.size := by omega
      have g1 : decide ((k : Int) < (p.size : Int)) = true := by simp; omega
      have n63 : ¬ p[k] = 63 := fun e => hne (HQ1.out k hks hk e).symm
      have hk1 := HQ2.out k hks hk n63
      have d63 : ((p[k].toNat : Int) == 63) = false := by
        rw [beq_eq_false_iff_ne]; intro e
        exact n63 (UInt8.toNat_inj.1 (by simpa using (by omega : p[k].toNat = 63)))
      clear HQ1 HQ2 n63
      go_wp2_with fail
      go_roundw
      case rel => exact ⟨k + 1, by omega, by go_num, HB.out⟩
      case measure => simp [intOf]; omega
    · subst hkq
      by_cases hks : k < p.size
      · have g1 : decide ((k : Int) < (p.size : Int)) = true := by simp; omega
        have e63 : p[k] = 63 := by
          by_cases e : p[k] = 63
          · exact e
          · have := HQ2.out k hks (Nat.le_refl _) e; omega
        have d63 : ((p[k].toNat : Int) == 63) = true := by rw [e63]; rfl
        clear HQ1 HQ2 e63
        have HLW : Hid (∀ X, Calls Tryz.prog 99 #[.string h] X fun e w' => e = .returned (.string (lowS h)) ∧ Below X.heap.size X w') := fun X => l1Lower_any h X (by omega)
        obtain ⟨o0, ho0⟩ : ∃ o : ByteArray, o = lowS h ++ p.extract 0 k := ⟨_, rfl⟩
        have add0 : ∀ X, (Op.stringOp .add (lowS h) (p.extract 0 k)).run Tryz.prog X = .ok (.string o0) X := fun X => by rw [ho0]; exact run_string_add_sum X _ _ (by rw [lowS_size, ByteArray.size_extract]; omega)
        have HO0 : Hid (o0.data.toList = (lowS h).data.toList ++ p.data.toList.take k ∧ o0.size ≤ 160) := by
          refine ⟨by rw [ho0, happ_list]; simp, ?_⟩
          rw [ho0, ByteArray.size_append, lowS_size, ByteArray.size_extract]; omega
        have B0 : Hid (Below wr.heap.size wr wr.drew) := (Below.refl _ _).drew
        have HKS : Hid (∀ X, Below wr.heap.size wr X → X.cell? ⟨B, 1, none⟩ = some (.string h) ∧ X.cell? ⟨B, 2, none⟩ = some (.string p)) := fun X hb => HK.out X (HB.out.trans (hb.mono HB.out.size))
        clear ho0
        obtain ⟨lw, hlw⟩ : ∃ lw, lw = lowS h := ⟨_, rfl⟩
        have HLWE : Hid (lw = lowS h) := hlw
        rw [← hlw] at HLW add0 HO0
        clear hlw
        go_wp2_with fail
        clear c1 c2
        go_region_held3 (fun X => X.cell? ⟨B, 1, none⟩ = some (.string h) ∧ X.cell? ⟨B, 2, none⟩ = some (.string p))
          (first | exact HKS.out _ BA.out | exact HKS.out _ B0.out)
          (first | (go_at_call 99; refine (HLW.out _).mono ?_; rintro e wa ⟨rfl, hba⟩; have BA : Hid (Below wr.heap.size wr wa) := B0.out.trans (hba.mono B0.out.size); clear hba))
        obtain ⟨c1, c2⟩ := HKS.out _ BA.out
        have HBA : Hid (Below w.heap.size w wa) := HB.out.trans (BA.out.mono HB.out.size)
        have bAl : Below wa.heap.size wa (wa.alloc (.cells #[] 9)) := (Below.refl _ _).alloc (Nat.le_refl _) _
        have c2' : (wa.alloc (.cells #[] 9)).cell? ⟨B, 2, none⟩ = some (.string p) := (HKS.out _ (BA.out.trans (bAl.mono BA.out.size))).2
        have HBL : Hid (Below wa.heap.size wa (wa.alloc (.cells #[] 9))) := bAl
        have ge : ((k : Int) == (p.size : Int)) = false := by simp; omega
        have gk0 : (0 : Int) ≤ (k : Int) + 1 := by omega
        have gk1 : (k : Int) + 1 ≤ p.size := by omega
        obtain ⟨C, hC⟩ : ∃ C, C = cutG 38 [] (p.data.toList.drop (k + 1)) := ⟨_, rfl⟩
        have hCl : C.length ≤ 101 := by
          have := cutG_len 38 (p.data.toList.drop (k + 1)) []
          rw [List.length_drop, hsize_list] at this
          rw [hC]; omega
        have HCN : Hid (C ≠ []) := by rw [hC]; exact cutG_ne _ _ _
        have HCC : Hid (∀ X, Calls Tryz.prog 92 #[.string (p.extract (k + 1) p.size), .int .u8 38] X fun e w' => CutRes C X.heap.size e w' ∧ Below X.heap.size X w') := fun X => by
          have := l1Cut_any (p.extract (k + 1) p.size) 38 X (by rw [ByteArray.size_extract]; omega)
          rw [kext] at this
          rw [hC]
          exact this
        have HKP : Hid (sortS (fullP C) = keyParts p.data.toList) := by show _ = _; rw [hC, keyParts, HQE.out]
        clear hC bAl HKS B0 BA HLW add0 d63 g1
        go_wp2_with fail
        refine (HCC.out _).mono ?_
        rintro e w2 ⟨⟨v6, rfl, ho6⟩, hb2⟩
        obtain ⟨g6, c6, rfl⟩ := ho6.isS (fun e => HCN.out (by simpa using e))
        rw [List.length_map] at ho6 ⊢
        have HP0 : Hid (OwnS w2 wa.heap.size (.slice (some ⟨wa.heap.size, 0, none⟩) 0 0) []) := (ownS_made0 wa wa.heap.size (Nat.le_refl _)).below hb2
        have HA0 : Hid (OwnS w2 (wa.heap.size + 1) (.slice (some ⟨g6, 0, none⟩) C.length c6) (C.map hmk)) := ho6.lower (by simp)
        have HB2 : Hid (Below w.heap.size w w2) := HBA.out.trans ((HBL.out.trans (hb2.mono HBL.out.size)).mono HBA.out.size)
        have hg6 : wa.heap.size + 1 ≤ g6 := (World.ownsRow.lt ho6 g6 rfl).1 |> fun h => by simpa using h
        have hsz : w.heap.size ≤ wa.heap.size := HBA.out.size
        clear ho6 hb2 HBL c1 c2 c2' HCC HCN HBA
        go_wp2_with fail
        go_loopw [5, 7] (fun v i wr => ∃ (k : Nat), k ≤ C.length ∧ i = .int .i64 (k : Int) ∧ OwnS wr wa.heap.size v ((fullP (C.take k)).map hmk) ∧ v.ownBlock ≠ some g6 ∧ OwnS wr (wa.heap.size + 1) (.slice (some ⟨g6, 0, none⟩) C.length c6) (C.map hmk) ∧ Below w.heap.size w wr) (fun _ i _ => C.length - (intOf i).toNat)
        case atStart => exact ⟨0, Nat.zero_le _, rfl, HP0.out, by simp [Value.ownBlock]; omega, HA0.out, HB2.out⟩
        case round =>
          obtain ⟨j, hj, rfl, hp, hpn, ha, hb⟩ := hrel
          have HP : Hid (OwnS wr wa.heap.size u5 ((fullP (C.take j)).map hmk)) := hp
          have HPN : Hid (u5.ownBlock ≠ some g6) := hpn
          have HA : Hid (OwnS wr (wa.heap.size + 1) (.slice (some ⟨g6, 0, none⟩) C.length c6) (C.map hmk)) := ha
          have HBR : Hid (Below w.heap.size w wr) := hb
          clear hp hpn ha hb
          by_cases hlt : j < C.length
          · obtain ⟨x, hx⟩ : ∃ x, C[j]? = some x := ⟨C[j], List.getElem?_eq_getElem hlt⟩
            have hcx : wr.cell? ⟨g6, j, none⟩ = some (.string (hmk x)) := HA.out.cellAt j (hmk x) (by rw [List.getElem?_map, hx]; rfl)
            have gj : (j : Int) < C.length := by omega
            by_cases hx0 : x = []
            · have HF : Hid (fullP (C.take (j + 1)) = fullP (C.take j)) := fullP_take_nil C j (by rw [hx, hx0])
              have dE := hmk_nilE hx0
              clear hx hx0
              go_wp2_with fail
              go_roundw
              case rel => exact ⟨j + 1, by omega, by go_num, by rw [HF.out]; exact HP.out, HPN.out, HA.out, HBR.out⟩
              case measure => simp [intOf]; omega
            · have HF : Hid (fullP (C.take (j + 1)) = fullP (C.take j) ++ [x]) := fullP_take_on C j x hx hx0
              have dE := hmk_eqE hx0
              have hfl : ((fullP (C.take j)).map hmk).length ≤ 1000 := by
                rw [List.length_map]
                have h1 := fullP_len (C.take j)
                rw [List.length_take] at h1
                omega
              have hzz : wa.heap.size ≤ wr.heap.size := by have := (World.ownsRow.lt HA.out g6 rfl).2; omega
              clear hx hx0
              go_wp2_with (at_builtin; refine wpList_append_str_at _ rfl (.tmp 67) (.tmp 72) rfl wa.heap.size _ _ (hmk x) rfl rfl HP.out (by omega) hzz _ _ _ HA.out g6 rfl HPN.out ?_; intro v4 w4 HO4 HA4 HN4 hb4)
              go_roundw
              case rel => exact ⟨j + 1, by omega, by go_num, by rw [HF.out, List.map_append]; exact HO4, HN4, HA4, HBR.out.trans (hb4.mono hsz)⟩
              case measure => simp [intOf]; omega
          · have ej : j = C.length := by omega
            subst ej
            have HS : Hid (∀ v, OwnS wr wa.heap.size v ((fullP (C.take C.length)).map hmk) → Calls Tryz.prog 131 #[v] wr fun e w' => CutRes (keyParts p.data.toList) wr.heap.size e w' ∧ Below wr.heap.size wr w') := fun v hv => by
              rw [List.take_length] at hv
              have := l5Sort_any (fullP C) v _ wr (by have := fullP_len C; omega) hv
              rw [HKP.out] at this
              exact this
            clear HA HPN
            go_wp2_with fail
            refine (HS.out _ HP.out).mono ?_
            rintro e w5 ⟨⟨v5, rfl, ho5⟩, hb5⟩
            obtain ⟨a5, c5, rfl, hc5⟩ := ho5.shape
            obtain ⟨S, hS⟩ : ∃ S, S = keyParts p.data.toList := ⟨_, rfl⟩
            rw [← hS] at hc5 ⊢
            rw [List.length_map]
            have hSl : S.length ≤ 101 := by rw [hS]; have := keyParts_len p.data.toList; rw [hsize_list] at this; omega
            have hSs : sumL S ≤ 100 := by rw [hS]; have := keyParts_sum p.data.toList; rw [hsize_list] at this; omega
            have HS5 : Hid (S = keyParts p.data.toList) := hS
            have HC5 : Hid (∀ (i : Nat) x, S[i]? = some x → ∃ g, a5 = some ⟨g, 0, none⟩ ∧ w5.cell? ⟨g, i, none⟩ = some (.string (hmk x))) := fun i x hx => hc5 i (hmk x) (by rw [List.getElem?_map, hx]; rfl)
            have HB5 : Hid (Below w.heap.size w w5) := HBR.out.trans (hb5.mono HBR.out.size)
            clear ho5 hc5 hS hb5 HS HP HBR HP0 HA0 HB2 HKP
            go_wp2_with fail
            go_loopw [4, 8] (fun v i wr => ∃ (k : Nat) (o : ByteArray), k ≤ S.length ∧ i = .int .i64 (k : Int) ∧ v = .string o ∧ o.data.toList = o0.data.toList ++ keyQ (S.take k) ∧ Below w5.heap.size w5 wr) (fun _ i _ => S.length - (intOf i).toNat)
            case atStart => exact ⟨0, o0, Nat.zero_le _, rfl, rfl, by simp [keyQ_nil], Below.refl _ _⟩
            case round =>
              obtain ⟨j, o, hj, rfl, rfl, ho, hb⟩ := hrel
              have hos : o.size ≤ 600 := by
                have h1 := congrArg List.length ho
                have h2 := keyQ_take_len S j
                have h3 := HO0.out.2
                rw [List.length_append, hsize_list, hsize_list] at h1
                omega
              have HO : Hid (o.data.toList = o0.data.toList ++ keyQ (S.take j)) := ho
              have HBR : Hid (Below w5.heap.size w5 wr) := hb
              clear ho hb
              by_cases hlt : j < S.length
              · obtain ⟨x, hx⟩ : ∃ x, S[j]? = some x := ⟨S[j], List.getElem?_eq_getElem hlt⟩
                obtain ⟨g, rfl, hcx0⟩ := HC5.out j x hx
                have hcx : wr.cell? ⟨g, j, none⟩ = some (.string (hmk x)) := by rw [HBR.out.cell (p := ⟨g, j, none⟩) (block_lt_of_cell hcx0)]; exact hcx0
                have hxs : (hmk x).size ≤ 100 := by have := sumL_get S j x hx; rw [hmk_size]; omega
                have gj : (j : Int) < S.length := by omega
                have HT : Hid (S.take (j + 1) = S.take j ++ [x]) := by show _ = _; rw [List.take_add_one, hx]; rfl
                have HXL : Hid ((hmk x).data.toList = x) := by show _ = _; simp [hmk]
                clear hcx0 HC5 hx
                by_cases hj0 : j = 0
                · subst hj0
                  have HE : Hid ((o ++ ⟨#[63]⟩ ++ hmk x : ByteArray).data.toList = o0.data.toList ++ keyQ (S.take (0 + 1))) := by
                    show _ = _
                    rw [happ_list, happ_list, HO.out, HXL.out, HT.out]
                    simp [keyQ_first, keyQ_nil]
                  go_wp2_with fail
                  go_roundw
                  case rel => exact ⟨0 + 1, _, by omega, by go_num, rfl, HE.out, HBR.out⟩
                  case measure => simp [intOf]; omega
                · have dj : ((j : Int) == 0) = false := by simp; omega
                  have HE : Hid ((o ++ ⟨#[38]⟩ ++ hmk x : ByteArray).data.toList = o0.data.toList ++ keyQ (S.take (j + 1))) := by
                    show _ = _
                    rw [happ_list, happ_list, HO.out, HXL.out, HT.out, keyQ_more _ _ (fun e => by have := congrArg List.length e; rw [List.length_take, List.length_nil] at this; omega)]
                    simp
                  go_wp2_with fail
                  go_roundw
                  case rel => exact ⟨j + 1, _, by omega, by go_num, rfl, HE.out, HBR.out⟩
                  case measure => simp [intOf]; omega
              · have ej : j = S.length := by omega
                subst ej
                have HR : Hid (o = hmk (keyT h p)) := by
                  show _ = _
                  refine hof_list ?_
                  rw [HO.out, HO0.out.1, List.take_length, HS5.out, keyT, HQE.out, HLWE.out]
                clear HC5
                go_wp2_with fail
                go_ret
                exact ⟨congrArg (fun s => Ending.returned (.string s)) HR.out, HB5.out.trans (HBR.out.mono HB5.out.size)⟩
      · have g1 : decide ((k : Int) < (p.size : Int)) = false := by simp; omega
        clear HQ1 HQ2
        have HLW : Hid (∀ X, Calls Tryz.prog 99 #[.string h] X fun e w' => e = .returned (.string (lowS h)) ∧ Below X.heap.size X w') := fun X => l1Lower_any h X (by omega)
        obtain ⟨o0, ho0⟩ : ∃ o : ByteArray, o = lowS h ++ p.extract 0 k := ⟨_, rfl⟩
        have add0 : ∀ X, (Op.stringOp .add (lowS h) (p.extract 0 k)).run Tryz.prog X = .ok (.string o0) X := fun X => by rw [ho0]; exact run_string_add_sum X _ _ (by rw [lowS_size, ByteArray.size_extract]; omega)
        have HO0 : Hid (o0.data.toList = (lowS h).data.toList ++ p.data.toList.take k ∧ o0.size ≤ 160) := by
          refine ⟨by rw [ho0, happ_list]; simp, ?_⟩
          rw [ho0, ByteArray.size_append, lowS_size, ByteArray.size_extract]; omega
        have B0 : Hid (Below wr.heap.size wr wr.drew) := (Below.refl _ _).drew
        have HKS : Hid (∀ X, Below wr.heap.size wr X → X.cell? ⟨B, 1, none⟩ = some (.string h) ∧ X.cell? ⟨B, 2, none⟩ = some (.string p)) := fun X hb => HK.out X (HB.out.trans (hb.mono HB.out.size))
        clear ho0
        obtain ⟨lw, hlw⟩ : ∃ lw, lw = lowS h := ⟨_, rfl⟩
        have HLWE : Hid (lw = lowS h) := hlw
        rw [← hlw] at HLW add0 HO0
        clear hlw
        go_wp2_with fail
        clear c1 c2
        go_region_held3 (fun X => X.cell? ⟨B, 1, none⟩ = some (.string h) ∧ X.cell? ⟨B, 2, none⟩ = some (.string p))
          (first | exact HKS.out _ BA.out | exact HKS.out _ B0.out)
          (first | (go_at_call 99; refine (HLW.out _).mono ?_; rintro e wa ⟨rfl, hba⟩; have BA : Hid (Below wr.heap.size wr wa) := B0.out.trans (hba.mono B0.out.size); clear hba))
        obtain ⟨c1, c2⟩ := HKS.out _ BA.out
        have HBA : Hid (Below w.heap.size w wa) := HB.out.trans (BA.out.mono HB.out.size)
        have ge : ((k : Int) == (p.size : Int)) = true := by simp; omega
        have HR : Hid (o0 = hmk (keyT h p)) := by
          show _ = _
          refine hof_list ?_
          rw [HO0.out.1, keyT, HQE.out, keyParts_none p.data.toList (by rw [HQE.out, hsize_list]; omega), keyQ_nil, List.append_nil, HLWE.out]
        clear HKS B0 BA HLW add0 g1
        go_wp2_with fail
        go_ret
        exact ⟨congrArg (fun s => Ending.returned (.string s)) HR.out, HBA.out⟩
end Go.Proofs.YtonnggelpjjmmaaGreatDoor
/-
  What the model's l4Read and ReadHeaders answer.
-/
namespace Go.Proofs.YtonnggelpjjmmaaGreatDoor
open Go.ChangeShapes Go.WideShapes Go.ChangeAt Go.RowKit Go.Sort
theorem wpAny_seq3 {P : Program} {md : Region.Mode} {ops : Array Oper} {Q : Exit → Act → World → Prop} {k : Nat} {o1 o2 o3 : Oper} {listed : Array Bool} {a : Act} {w : World} (h1 : ops[k]? = some o1) (h2 : ops[k + 1]? = some o2) (h3 : ops[k + 2]? = some o3) (h4 : ops.size = k + 3)
    (hB : Region.seqB md ops 3 k listed = true) (h : wpList P ops Q [o1, o2, o3] a w) : wpAny P md ops Q 3 listed a w :=
  wpAny_of_seq [o1, o2, o3] k listed a w (fun j => by
    match j with
    | 0 => simpa using h1.symm
    | 1 => simpa using h2.symm
    | 2 => simpa using h3.symm
    | j + 3 => rw [Array.getElem?_eq_none (by omega)]; simp) hB h
def HReadRes (s : ByteArray) (base : Nat) (e : Ending) (w : World) : Prop := ∃ v, e = .returned (.tuple #[v, .int .i64 (readHC s)]) ∧ OwnH w base v (readHL s)
theorem HReadRes.mk {s : ByteArray} {base : Nat} {w : World} {v : Value} {c : Int} {L : List Hdr} (h : readHC s = c ∧ readHL s = L) (ho : OwnH w base v L) : HReadRes s base (.returned (.tuple #[v, .int .i64 c])) w := ⟨v, by rw [h.1], by rw [h.2]; exact ho⟩
theorem readT_of_none {l : List UInt8} (h : linesO l = none) : readT l = none := by unfold readT; rw [h]; rfl
theorem readT_of_some {l : List UInt8} {P : List (List UInt8)} (h : linesO l = some P) : readT l = readLs P := by unfold readT; rw [h]; rfl
theorem cl_get (p : List UInt8) (k : Nat) (h : k < (hmk p).size) : (hmk p)[k] = p[k]'(by rw [hmk_size] at h; exact h) := by
  rfl
theorem hext_take (p : List UInt8) (k : Nat) : (hmk p).extract 0 k = hmk (p.take k) := by
  rw [hext_mk, hmk_list]; simp
theorem hext_drop (p : List UInt8) (k : Nat) : (hmk p).extract k (hmk p).size = hmk (p.drop k) := by
  rw [hext_mk, hmk_list, hmk_size, List.take_of_length_le (by rw [List.length_drop]; exact Nat.le_refl _)]
set_option maxRecDepth 100000 in
set_option maxHeartbeats 16000000 in
theorem l4Read_any (s : ByteArray) (w : World) (hs : ¬ 6000 < s.size) :
    Calls Tryz.prog 91 #[.string s] w fun e w' => HReadRes s w.heap.size e w' ∧ Below w.heap.size w w' := by
  have HP : Hid (∀ w, Calls Tryz.prog 129 #[.string s] w fun e w' => LinesRes s w.heap.size e w' ∧ Below w.heap.size w w') := fun w => l4Lines_any s w (by omega)
  have R5 : Hid (readT s.data.toList = none → readHC s = 5 ∧ readHL s = []) := fun h => readH_bad hs h
  have RF : Hid (∀ L, readT s.data.toList = some L → headsC L ≠ 0 → readHC s = headsC L ∧ readHL s = []) := fun L h1 h2 => readH_fault hs h1 h2
  have R0 : Hid (∀ L, readT s.data.toList = some L → headsC L = 0 → readHC s = 0 ∧ readHL s = L) := fun L h1 h2 => readH_ok hs h1 h2
  go_enter Tryz.func91, Tryz.ntmps91
  go_wp2_with fail
  refine (HP.out _).mono ?_
  rintro e w1 ⟨⟨v, O, ok, rfl, ho, hol, h1, h2⟩, hb1⟩
  have HB1 : Hid (Below w.heap.size w w1) := hb1
  have hzb1 := hb1.size
  clear hb1 HP
  cases ok
  · have HX : Hid (readHC s = 5 ∧ readHL s = []) := R5.out (readT_of_none (h2 rfl))
    clear h1 h2 R5 RF R0 ho
    go_wp2_with fail
    go_ret2
    exact ⟨HReadRes.mk HX.out (OwnH.nil _ _), HB1.out⟩
  have HT : Hid (readT s.data.toList = readLs O) := readT_of_some (h1 rfl)
  have hpl := (linesO_len _ _ O (Nat.le_refl _) (h1 rfl)).2
  have HPL : Hid (∀ p ∈ O, p.length ≤ 6000) := fun p hp => by have := hpl p hp; rw [hsize_list] at this; omega
  clear h1 h2 hpl
  obtain ⟨va, vc, hv, _⟩ := ho.shape
  rw [List.length_map] at hv
  subst hv
  have HO1 : Hid (OwnS w1 0 (.slice va O.length vc) (O.map hmk)) := OwnS.lower ho (Nat.zero_le _)
  clear ho
  generalize hn : O.length = n at *
  have HN : Hid (O.length = n) := hn
  clear hn
  go_wp2_with fail
  go_loopw [6, 7] (fun v i wr => ∃ (k : Nat) (R : List Hdr), k ≤ n ∧ R.length ≤ k ∧ i = .int .i64 k ∧ OwnH wr w.heap.size v R ∧ readLs O = (readLs (O.drop k)).map (R ++ ·) ∧ Below w.heap.size w wr ∧ OwnS wr 0 (.slice va n vc) (O.map hmk)) (fun _ i _ => n - (intOf i).toNat)
  case atStart => exact ⟨0, [], Nat.zero_le _, Nat.le_refl _, rfl, OwnH.made0 w1 w.heap.size hzb1, by simp, HB1.out.alloc hzb1 _, HO1.out.below ((Below.refl _ _).alloc (Nat.le_refl _) _)⟩
  case round =>
    obtain ⟨k, R, hk, hR, rfl, hown, hrd, hb, hat⟩ := hrel
    have HO : Hid (OwnH wr w.heap.size u6 R) := hown
    have HD : Hid (readLs O = (readLs (O.drop k)).map (R ++ ·)) := hrd
    have HB : Hid (Below w.heap.size w wr) := hb
    have HTx : Hid (OwnS wr 0 (.slice va n vc) (O.map hmk)) := hat
    have hz := hb.size
    clear hown hrd hb hat HB1 HO1
    by_cases hlt : k < n
    · obtain ⟨p, hp⟩ : ∃ p, O[k]? = some p := ⟨O[k]'(by have := HN.out; omega), List.getElem?_eq_getElem _⟩
      obtain ⟨a2, c2, hv2, hcell⟩ := HTx.out.shape
      obtain ⟨g, hg, c1⟩ := hcell k (hmk p) (by rw [List.getElem?_map, hp]; rfl)
      have ha2 : va = a2 := (Value.slice.inj hv2).1
      subst ha2
      subst hg
      have hpz : p.length ≤ 6000 := HPL.out p (List.mem_of_getElem? hp)
      have hdr : O.drop k = p :: O.drop (k + 1) := by
        obtain ⟨hk2, rfl⟩ := List.getElem?_eq_some_iff.1 hp
        exact List.drop_eq_getElem_cons hk2
      have D2 : ¬ clAt p < p.length → readLs O = none := fun h => by rw [HD.out, hdr, readLs_bad h]; rfl
      have D3 : clAt p < p.length → readLs O = (readLs (O.drop (k + 1))).map ((R ++ [lineOf p]) ++ ·) := fun h => by
        rw [HD.out, hdr, readLs_take h, Option.map_map]
        congr 1
        funext x
        simp
      have EL : lineOf p = ⟨(hmk p).extract 0 (clAt p), trimT ((hmk p).extract (clAt p + 1) (hmk p).size)⟩ := by rw [hext_take, hext_drop]; rfl
      rw [EL] at D3
      have hps : (hmk p).size = p.length := hmk_size p
      have hon : ∀ j, j ≤ clAt p → (h : j < (hmk p).size) → ((hmk p)[j] = 58 → clAt p = j) ∧ (¬ (hmk p)[j] = 58 → j + 1 ≤ clAt p) := fun j hj h => by
        have := clAt_on p j hj (by rw [hps] at h; exact h)
        rw [cl_get p j h]
        exact this
      have hle := clAt_le p
      have gk : (k : Int) < n := by omega
      rw [← hps] at hpz hle D2 D3
      clear hdr hp HD EL hps hcell hv2
      generalize hmk p = pb at *
      generalize clAt p = q at *
      have HD2 : Hid (¬ q < pb.size → readLs O = none) := D2
      have HD3 : Hid (q < pb.size → readLs O = (readLs (O.drop (k + 1))).map ((R ++ [⟨pb.extract 0 q, trimT (pb.extract (q + 1) pb.size)⟩]) ++ ·)) := D3
      have HON : Hid (∀ j, j ≤ q → (h : j < pb.size) → (pb[j] = 58 → q = j) ∧ (¬ pb[j] = 58 → j + 1 ≤ q)) := hon
      clear D2 D3 hon
      have gk0 : (0 : Int) ≤ k := by omega
      go_wp2_with fail
      go_loop [8] (fun x => ∃ j : Nat, j ≤ q ∧ x = .int .i64 (j : Int)) (fun x => pb.size - (intOf x).toNat)
      case atStart => exact ⟨0, Nat.zero_le _, rfl⟩
      case round =>
        obtain ⟨j, hj, rfl⟩ := hrel
        by_cases hjs : j < pb.size
        · have gj : (j : Int) < pb.size := by omega
          have gj0 : (0 : Int) ≤ j := by omega
          obtain ⟨o1, o2⟩ := HON.out j hj hjs
          by_cases h58 : (pb[j].toNat : Int) = 58
          · have hqj : q = j := o1 ((u8_58 _).2 h58)
            have d58 : ((pb[j].toNat : Int) != 58) = false := by simpa using h58
            have gne : ¬ (j : Int) = pb.size := by omega
            have HY0 := HD3.out (by omega)
            rw [hqj] at HY0
            have HTR0 := fun w => l1Trim_big (pb.extract (j + 1) pb.size) w (by rw [ByteArray.size_extract]; omega)
            obtain ⟨tv, htv⟩ : ∃ tv, Hid (trimT (pb.extract (j + 1) pb.size) = tv) := ⟨_, rfl⟩
            rw [htv.out] at HY0
            have HTR : Hid (∀ w, Calls Tryz.prog 115 #[.string (pb.extract (j + 1) pb.size)] w fun e w' => e = .returned (.string tv) ∧ w' = w) := by
              rw [htv.out] at HTR0
              exact HTR0
            have HY : Hid (readLs O = (readLs (O.drop (k + 1))).map ((R ++ [⟨pb.extract 0 j, tv⟩]) ++ ·)) := HY0
            clear o1 o2 HY0 HTR0 htv HD2 HD3 HON
            go_wp2_with fail
            refine wp_region_any (by kernel_rfl) ?_
            change wpAny _ _ _ _ _ _ _ (World.drew _)
            obtain ⟨Z, hZ⟩ : ∃ X, X = wr.drew := ⟨_, rfl⟩
            rw [← hZ]
            have KZ : Below wr.heap.size wr Z := by
              rw [hZ]
              exact (Below.refl _ _).drew
            have cZ := hkeep KZ c1
            have HOZ : Hid (OwnH Z w.heap.size u6 R) := HO.out.below KZ
            have HTZ : Hid (OwnS Z 0 (.slice (some ⟨g, 0, none⟩) n vc) (O.map hmk)) := HTx.out.below KZ
            have HBZ : Hid (Below w.heap.size w Z) := HB.out.trans (KZ.mono hz)
            have hzZ := HBZ.out.size
            have gj1 : (0 : Int) ≤ (j : Int) + 1 := by omega
            have gj2 : (j : Int) + 1 ≤ pb.size := by omega
            have gj3 : (j : Int) ≤ pb.size := by omega
            clear hZ KZ HO HTx HB c1
            refine wpAny_take (i := 0) (v := u6) rfl (by kernel_rfl) (by kernel_rfl) (by kernel_rfl) (fun _ _ _ h => h) (Or.inl ⟨by kernel_rfl, ?_⟩) ?_
            · intro w; go_simp
            refine wpAny_take (i := 1) (v := .slice (some ⟨g, 0, none⟩) n vc) rfl (by kernel_rfl) (by kernel_rfl) (by kernel_rfl) (fun _ _ _ h => h) (Or.inl ⟨by kernel_rfl, ?_⟩) ?_
            · intro w; go_simp
            refine wpAny_take (i := 2) (v := .int .i64 (k : Int)) rfl (by kernel_rfl) (by kernel_rfl) (by kernel_rfl) (fun _ _ _ h => h) (Or.inl ⟨by kernel_rfl, ?_⟩) ?_
            · intro w; go_simp
            refine wpAny_take (i := 3) (v := .pointer (some ⟨g, k, none⟩)) rfl (by kernel_rfl) (by kernel_rfl) (by kernel_rfl) (fun _ _ _ h => h) (Or.inl ⟨by kernel_rfl, ?_⟩) ?_
            · intro w; go_simp
            refine wpAny_take (i := 5) (v := .int .i64 (j : Int)) rfl (by kernel_rfl) (by kernel_rfl) (by kernel_rfl) (fun _ _ _ h => h) (Or.inl ⟨by kernel_rfl, ?_⟩) ?_
            · intro w; go_simp
            refine wpAny_take (i := 7) (v := .slice (some ⟨g, 0, none⟩) n vc) rfl (by kernel_rfl) (by kernel_rfl) (by kernel_rfl) (fun _ _ _ h => h) (Or.inl ⟨by kernel_rfl, ?_⟩) ?_
            · intro w; go_simp
            refine wpAny_take (i := 8) (v := .int .i64 (k : Int)) rfl (by kernel_rfl) (by kernel_rfl) (by kernel_rfl) (fun _ _ _ h => h) (Or.inl ⟨by kernel_rfl, ?_⟩) ?_
            · intro w; go_simp
            refine wpAny_take (i := 9) (v := .pointer (some ⟨g, k, none⟩)) rfl (by kernel_rfl) (by kernel_rfl) (by kernel_rfl) (fun _ _ _ h => h) (Or.inl ⟨by kernel_rfl, ?_⟩) ?_
            · intro w; go_simp
            refine wpAny_take (i := 11) (v := .int .i64 (j : Int)) rfl (by kernel_rfl) (by kernel_rfl) (by kernel_rfl) (fun _ _ _ h => h) (Or.inl ⟨by kernel_rfl, ?_⟩) ?_
            · intro w; go_simp
            refine wpAny_take (i := 12) (v := .int .i64 ((j : Int) + 1)) rfl (by kernel_rfl) (by kernel_rfl) (by kernel_rfl) (fun _ _ _ h => h) (Or.inl ⟨by kernel_rfl, ?_⟩) ?_
            · intro w; go_simp; rw [IntKind.wrap_i64]; omega
            refine wpAny_ready (rs := [4, 10]) (by kernel_rfl) (by simp) ?_
            refine AllReady.cons rfl (fun K hK => ?_) (AllReady.cons rfl (fun K hK => ?_) AllReady.nil)
            · go_simp
              refine hK _ _ ?_
              clear hK K
              refine wpAny_take (i := 6) (v := .string (pb.extract 0 j)) rfl (by kernel_rfl) (by kernel_rfl) (by kernel_rfl) (fun _ _ _ h => h) (Or.inl ⟨by kernel_rfl, ?_⟩) ?_
              · intro w; go_simp
              refine wpAny_ready (rs := [10]) (by kernel_rfl) (by simp) ?_
              refine AllReady.cons rfl (fun K hK => ?_) AllReady.nil
              go_simp
              refine hK _ _ ?_
              clear hK K
              refine wpAny_take (i := 13) (v := .string (pb.extract (j + 1) pb.size)) rfl (by kernel_rfl) (by kernel_rfl) (by kernel_rfl) (fun _ _ _ h => h) (Or.inl ⟨by kernel_rfl, ?_⟩) ?_
              · intro w; go_simp
              refine wpAny_ready (rs := [14]) (by kernel_rfl) (by simp) ?_
              refine AllReady.cons rfl (fun K hK => ?_) AllReady.nil
              go_simp
              go_wp2_with fail
              refine (HTR.out _).mono ?_
              rintro e wz ⟨rfl, rfl⟩
              refine hK _ _ ?_
              clear hK K
              refine wpAny_take (i := 15) (v := .agg #[.string (pb.extract 0 j), .string tv]) rfl (by kernel_rfl) (by kernel_rfl) (by kernel_rfl) (fun _ _ _ h => h) (Or.inl ⟨by kernel_rfl, ?_⟩) ?_
              · intro w; go_simp
              refine wpAny_seq3 (k := 16) (o1 := Oper.mk _ _ _ _ _ _) (o2 := Oper.mk _ _ _ _ _ _) (o3 := Oper.mk _ _ _ _ _ _) rfl rfl rfl rfl (by kernel_rfl) ?_
              go_wp2_with (at_builtin; refine wpList_append_hdr _ rfl (.tmp 49) (.tmp 65) rfl w.heap.size _ R (pb.extract 0 j) tv rfl rfl HOZ.out (by omega) hzZ ?_; intro v5 w5 HO5 hb5 hz5 hk5)
              go_roundw
              case rel => exact ⟨k + 1, R ++ [⟨pb.extract 0 j, tv⟩], by omega, by simp; omega, by go_num, HO5, HY.out, HBZ.out.trans hb5, hk5 _ _ _ HTZ.out⟩
              case measure => simp [intOf]; omega
            · go_simp
              refine hK _ _ ?_
              clear hK K
              refine wpAny_take (i := 13) (v := .string (pb.extract (j + 1) pb.size)) rfl (by kernel_rfl) (by kernel_rfl) (by kernel_rfl) (fun _ _ _ h => h) (Or.inl ⟨by kernel_rfl, ?_⟩) ?_
              · intro w; go_simp
              refine wpAny_ready (rs := [4, 14]) (by kernel_rfl) (by simp) ?_
              refine AllReady.cons rfl (fun K hK => ?_) (AllReady.cons rfl (fun K hK => ?_) AllReady.nil)
              · go_simp
                refine hK _ _ ?_
                clear hK K
                refine wpAny_take (i := 6) (v := .string (pb.extract 0 j)) rfl (by kernel_rfl) (by kernel_rfl) (by kernel_rfl) (fun _ _ _ h => h) (Or.inl ⟨by kernel_rfl, ?_⟩) ?_
                · intro w; go_simp
                refine wpAny_ready (rs := [14]) (by kernel_rfl) (by simp) ?_
                refine AllReady.cons rfl (fun K hK => ?_) AllReady.nil
                go_simp
                go_wp2_with fail
                refine (HTR.out _).mono ?_
                rintro e wz ⟨rfl, rfl⟩
                refine hK _ _ ?_
                clear hK K
                refine wpAny_take (i := 15) (v := .agg #[.string (pb.extract 0 j), .string tv]) rfl (by kernel_rfl) (by kernel_rfl) (by kernel_rfl) (fun _ _ _ h => h) (Or.inl ⟨by kernel_rfl, ?_⟩) ?_
                · intro w; go_simp
                refine wpAny_seq3 (k := 16) (o1 := Oper.mk _ _ _ _ _ _) (o2 := Oper.mk _ _ _ _ _ _) (o3 := Oper.mk _ _ _ _ _ _) rfl rfl rfl rfl (by kernel_rfl) ?_
                go_wp2_with (at_builtin; refine wpList_append_hdr _ rfl (.tmp 49) (.tmp 65) rfl w.heap.size _ R (pb.extract 0 j) tv rfl rfl HOZ.out (by omega) hzZ ?_; intro v5 w5 HO5 hb5 hz5 hk5)
                go_roundw
                case rel => exact ⟨k + 1, R ++ [⟨pb.extract 0 j, tv⟩], by omega, by simp; omega, by go_num, HO5, HY.out, HBZ.out.trans hb5, hk5 _ _ _ HTZ.out⟩
                case measure => simp [intOf]; omega
              · go_simp
                go_wp2_with fail
                refine (HTR.out _).mono ?_
                rintro e wz ⟨rfl, rfl⟩
                refine hK _ _ ?_
                clear hK K
                refine wpAny_ready (rs := [4]) (by kernel_rfl) (by simp) ?_
                refine AllReady.cons rfl (fun K hK => ?_) AllReady.nil
                go_simp
                refine hK _ _ ?_
                clear hK K
                refine wpAny_take (i := 6) (v := .string (pb.extract 0 j)) rfl (by kernel_rfl) (by kernel_rfl) (by kernel_rfl) (fun _ _ _ h => h) (Or.inl ⟨by kernel_rfl, ?_⟩) ?_
                · intro w; go_simp
                refine wpAny_take (i := 15) (v := .agg #[.string (pb.extract 0 j), .string tv]) rfl (by kernel_rfl) (by kernel_rfl) (by kernel_rfl) (fun _ _ _ h => h) (Or.inl ⟨by kernel_rfl, ?_⟩) ?_
                · intro w; go_simp
                refine wpAny_seq3 (k := 16) (o1 := Oper.mk _ _ _ _ _ _) (o2 := Oper.mk _ _ _ _ _ _) (o3 := Oper.mk _ _ _ _ _ _) rfl rfl rfl rfl (by kernel_rfl) ?_
                go_wp2_with (at_builtin; refine wpList_append_hdr _ rfl (.tmp 49) (.tmp 65) rfl w.heap.size _ R (pb.extract 0 j) tv rfl rfl HOZ.out (by omega) hzZ ?_; intro v5 w5 HO5 hb5 hz5 hk5)
                go_roundw
                case rel => exact ⟨k + 1, R ++ [⟨pb.extract 0 j, tv⟩], by omega, by simp; omega, by go_num, HO5, HY.out, HBZ.out.trans hb5, hk5 _ _ _ HTZ.out⟩
                case measure => simp [intOf]; omega
          · have hqj := o2 (fun e => h58 ((u8_58 _).1 e))
            have d58 : ((pb[j].toNat : Int) != 58) = true := by simpa using h58
            clear o1 o2
            go_wp2_with fail
            go_round
            case rel => exact ⟨j + 1, hqj, by go_num⟩
            case measure => simp [intOf]; omega
        · have hqj : q = j := by omega
          have gj : ¬ (j : Int) < pb.size := by omega
          have gd : decide ((j : Int) < pb.size) = false := by simpa using gj
          have gje : (j : Int) = pb.size := by omega
          have HX : Hid (readHC s = 5 ∧ readHL s = []) := R5.out (by rw [HT.out]; exact HD2.out (by omega))
          have hjq : j = pb.size := by omega
          subst hjq
          clear HD2 HD3 HON
          go_wp2_with fail
          go_ret2
          exact ⟨HReadRes.mk HX.out (OwnH.nil _ _), HB.out⟩
    · have HX : Hid (readT s.data.toList = some R) := by
        show _ = _
        rw [HT.out, HD.out, List.drop_of_length_le (by have := HN.out; omega)]
        simp [readLs]
      obtain ⟨ra, rc, hra, hin⟩ := HO.out.at
      subst hra
      have hRn : R.length ≤ 6000 := by omega
      have HF := specHFault_any wr ra rc R (by omega) hin
      clear HD HTx hin
      by_cases h0 : headsC R = 0
      · have HY : Hid (readHC s = 0 ∧ readHL s = R) := R0.out R HX.out h0
        rw [h0] at HF
        have HO2 : Hid (OwnH wr w.heap.size (.slice ra R.length rc) R) := HO.out
        clear HX h0 HO
        generalize R.length = rn at *
        go_wp2_with fail
        refine HF.mono ?_
        rintro e w2 ⟨rfl, hb2⟩
        have HB2 : Hid (Below w.heap.size w w2) := HB.out.trans (hb2.mono hz)
        have HO3 : Hid (OwnH w2 w.heap.size (.slice ra rn rc) R) := HO2.out.below hb2
        clear hb2 HB HO2 HF
        go_wp2_with fail
        go_ret2
        exact ⟨HReadRes.mk HY.out HO3.out, HB2.out⟩
      · have HY : Hid (readHC s = headsC R ∧ readHL s = []) := RF.out R HX.out h0
        generalize headsC R = fc at *
        clear HX HO
        generalize R.length = rn at *
        go_wp2_with fail
        refine HF.mono ?_
        rintro e w2 ⟨rfl, hb2⟩
        have HB2 : Hid (Below w.heap.size w w2) := HB.out.trans (hb2.mono hz)
        clear hb2 HB HF
        go_wp2_with fail
        go_ret2
        exact ⟨HReadRes.mk HY.out (OwnH.nil _ _), HB2.out⟩
end Go.Proofs.YtonnggelpjjmmaaGreatDoor
/-
  What ReadHeaders and its model answer.
-/
namespace Go.Proofs.YtonnggelpjjmmaaGreatDoor
open Go.ChangeShapes Go.WideShapes Go.ChangeAt Go.RowKit Go.Sort
set_option maxHeartbeats 2000000 in
theorem specRead_any (s : ByteArray) (w : World) :
    Calls Tryz.prog 54 #[.string s] w fun e w' => HRes (readHC s) (readHL s) w.heap.size e w' ∧ Below w.heap.size w w' := by
  by_cases hs : 6000 < s.size
  · have hh : (6000 : Int) < s.size := by omega
    have HL : Hid (readHC s = 2 ∧ readHL s = []) := readH_long hs
    go_enter Tryz.func54, Tryz.ntmps54
    go_wp2
    exact bodyPost_ret (v := .agg #[.int .i64 2, .slice none 0 0]) (by simp [results, Tryz.results54, go_sem]) rfl ⟨HRes.mk HL.out (OwnH.nil _ _), (Below.refl _ _).alloc (Nat.le_refl _) _⟩
  have hh : ¬ (6000 : Int) < s.size := by omega
  have HP : Hid (∀ W, Calls Tryz.prog 91 #[.string s] W fun e w' => HReadRes s W.heap.size e w' ∧ Below W.heap.size W w') := fun W => l4Read_any s W hs
  clear hs
  go_enter Tryz.func54, Tryz.ntmps54
  go_wp2_with fail
  refine (HP.out _).mono ?_
  rintro e w1 ⟨⟨v, rfl, ho⟩, hb⟩
  simp only [World.size_alloc] at ho hb
  obtain ⟨hz, q0, q1, f0, f1, kb⟩ := heads_room hb
  obtain ⟨va, vc, hv, _⟩ := ho.at
  generalize hn : (readHL s).length = vn at hv
  subst hv
  obtain ⟨c, hc⟩ : ∃ c, Hid (readHC s = c) := ⟨_, rfl⟩
  rw [hc.out]
  have KO : Hid (OwnH w1 (w.heap.size + 1) (.slice va vn vc) (readHL s)) := ho
  obtain ⟨r0, r1⟩ := two_set (v0 := .int .i64 c) (v1 := .slice va vn vc) q0 q1
  clear hb ho HP hn
  go_wp2_with fail
  exact bodyPost_ret (v := .agg #[.int .i64 c, .slice va vn vc]) (by simp [results, Tryz.results54, go_sem, r0, r1]) rfl ⟨HRes.mk ⟨hc.out, rfl⟩ ((ownH_set (ownH_set KO.out (Nat.lt_succ_self _)) (Nat.lt_succ_self _)).lower (Nat.le_succ _)), (kb.setCell (Nat.le_refl _) _).setCell (Nat.le_refl _) _⟩
/-- The library's own variable holds some number. -/
def MaxIs (w : World) : Prop := ∃ m, w.cell? ⟨5, 0, none⟩ = some (.int .i64 m)
theorem MaxIs.below {w w' : World} (h : MaxIs w) (hb : Below w.heap.size w w') : MaxIs w' := by
  obtain ⟨m, h⟩ := h
  exact ⟨m, hkeep hb h⟩
theorem below_drewN (w : World) (n : Nat) : Below w.heap.size w (w.drewN n) :=
  have h := Below.refl w.heap.size w
  ⟨h.os, h.tape, h.output, h.size, h.block⟩
theorem hcut_cr (l : List UInt8) (w : World) (hm : MaxIs w) (hl : l.length ≤ 6000) (h : crAt l < l.length) :
    Calls Tryz.prog 64 #[.string (hmk l), .string ⟨#[13, 10]⟩] w fun e w' => e = .returned (.tuple #[.string (hmk (l.take (crAt l))), .string (hmk (l.drop (crAt l + 2))), .bool true]) ∧ Below w.heap.size w w' := by
  obtain ⟨m, hm⟩ := hm
  have := Any.strings_Cut Tryz.laysM145.ton145 (hmk l) ⟨#[13, 10]⟩ m w (by rw [hmk_size]; omega) hm
  rw [hmk_list, show (⟨#[13, 10]⟩ : ByteArray).data.toList = [13, 10] from rfl, cut_cr h] at this
  exact this.mono fun e w' ⟨h1, n, h2⟩ => ⟨h1, h2 ▸ below_drewN w n⟩
theorem hcut_cl (l : List UInt8) (w : World) (hm : MaxIs w) (hl : l.length ≤ 6000) (h : clAt l < l.length) :
    Calls Tryz.prog 64 #[.string (hmk l), .string ⟨#[58]⟩] w fun e w' => e = .returned (.tuple #[.string (hmk (l.take (clAt l))), .string (hmk (l.drop (clAt l + 1))), .bool true]) ∧ Below w.heap.size w w' := by
  obtain ⟨m, hm⟩ := hm
  have := Any.strings_Cut Tryz.laysM145.ton145 (hmk l) ⟨#[58]⟩ m w (by rw [hmk_size]; omega) hm
  rw [hmk_list, show (⟨#[58]⟩ : ByteArray).data.toList = [58] from rfl, cut_cl h] at this
  exact this.mono fun e w' ⟨h1, n, h2⟩ => ⟨h1, h2 ▸ below_drewN w n⟩
theorem hcut_no (l : List UInt8) (w : World) (hm : MaxIs w) (hl : l.length ≤ 6000) (h : ¬ clAt l < l.length) :
    Calls Tryz.prog 64 #[.string (hmk l), .string ⟨#[58]⟩] w fun e w' => e = .returned (.tuple #[.string (hmk l), .string ⟨#[]⟩, .bool false]) ∧ Below w.heap.size w w' := by
  obtain ⟨m, hm⟩ := hm
  have := Any.strings_Cut Tryz.laysM145.ton145 (hmk l) ⟨#[58]⟩ m w (by rw [hmk_size]; omega) hm
  rw [hmk_list, show (⟨#[58]⟩ : ByteArray).data.toList = [58] from rfl, cut_cl_no h] at this
  exact this.mono fun e w' ⟨h1, n, h2⟩ => ⟨h1, h2 ▸ below_drewN w n⟩
theorem hsuffix (s : ByteArray) (w : World) (hs : s.size ≤ 6000) (h0 : ¬ s.data.toList = []) :
    Calls Tryz.prog 82 #[.string s, .string ⟨#[13, 10]⟩] w fun e w' => e = .returned (.bool (linesO s.data.toList).isSome) ∧ w' = w := by
  have := Any.strings_HasSuffix Tryz.lays100 s ⟨#[13, 10]⟩ w (by omega)
  rw [show Lib.hasSuffix s.data.toList (⟨#[13, 10]⟩ : ByteArray).data.toList = (linesO s.data.toList).isSome from (linesO_suffix _ _ (Nat.le_refl _) h0).symm] at this
  exact this
theorem hmk_empty {l : List UInt8} (h : ¬ l = []) : (hmk l).toList.isEmpty = false := by
  rw [ByteArray.toList_eq, hmk_list]
  cases l with
  | nil => exact absurd rfl h
  | cons c r => rfl
theorem str_hmk (s : ByteArray) : s = hmk s.data.toList := by cases s; simp [hmk]
theorem linesO_found {l : List UInt8} (h0 : ¬ l = []) (h : (linesO l).isSome = true) : crAt l < l.length ∧ (linesO (l.drop (crAt l + 2))).isSome = true := by
  by_cases c : crAt l < l.length
  · refine ⟨c, ?_⟩
    rw [linesO_cut c, Option.isSome_map] at h
    exact h
  · rw [linesO_bad h0 c] at h; cases h
theorem readT_none_of {l : List UInt8} (h : (linesO l).isSome = false) : readT l = none := by
  cases c : linesO l with
  | none => exact readT_of_none c
  | some P => rw [c] at h; cases h
def strLen : Value → Nat
  | .string b => b.size
  | _ => 0
theorem trim_hmk (l : List UInt8) (h : l.length ≤ 6000) : (trimT (hmk l)).size ≤ 6000 := by
  have := trimT_size (hmk l)
  rw [hmk_size] at this
  omega
/-- The loop of ReadHeaders: what is read, and what is left. -/
structure ReadAt (s : ByteArray) (R : List Hdr) (rl : List UInt8) : Prop where
  eq : readT s.data.toList = (readT rl).map (R ++ ·)
  isS : (linesO rl).isSome = true
  len : R.length + rl.length ≤ 6000
theorem ReadAt.take {s : ByteArray} {R : List Hdr} {rl : List UInt8} (h : ReadAt s R rl) (h0 : ¬ rl = []) (hc : clAt (rl.take (crAt rl)) < (rl.take (crAt rl)).length) : ReadAt s (R ++ [lineOf (rl.take (crAt rl))]) (rl.drop (crAt rl + 2)) := by
  obtain ⟨h1, h2⟩ := linesO_found h0 h.isS
  have := crAt_room rl h1
  refine ⟨?_, h2, ?_⟩
  · rw [h.eq, readT_take h1 hc, Option.map_map]
    congr 1
    funext x
    simp
  · have hl := h.len
    simp only [List.length_append, List.length_cons, List.length_nil, List.length_drop]
    omega
theorem ReadAt.bad {s : ByteArray} {R : List Hdr} {rl : List UInt8} (h : ReadAt s R rl) (h0 : ¬ rl = []) (hc : ¬ clAt (rl.take (crAt rl)) < (rl.take (crAt rl)).length) : readT s.data.toList = none := by
  rw [h.eq, readT_bad (linesO_found h0 h.isS).1 hc]
  rfl
theorem ReadAt.done {s : ByteArray} {R : List Hdr} (h : ReadAt s R []) : readT s.data.toList = some R := by
  rw [h.eq, readT_nil]
  simp
set_option maxRecDepth 100000 in
set_option maxHeartbeats 16000000 in
theorem implRead_loop (s : ByteArray) (w : World) (hs : ¬ 6000 < s.size) (hset : SetIs w) (hmx : MaxIs w) (hsome : (linesO s.data.toList).isSome = true) (hne : ¬ s.data.toList = []) :
    Calls Tryz.prog 83 #[.string s] w fun e w' => HRes (readHC s) (readHL s) w.heap.size e w' ∧ Below w.heap.size w w' := by
  have R5 : Hid (readT s.data.toList = none → readHC s = 5 ∧ readHL s = []) := fun h => readH_bad hs h
  have RF : Hid (∀ L, readT s.data.toList = some L → headsC L ≠ 0 → readHC s = headsC L ∧ readHL s = []) := fun L h1 h2 => readH_fault hs h1 h2
  have R0 : Hid (∀ L, readT s.data.toList = some L → headsC L = 0 → readHC s = 0 ∧ readHL s = L) := fun L h1 h2 => readH_ok hs h1 h2
  have hh : ¬ (6000 : Int) < s.size := by omega
  have HS : Hid (SetIs w) := hset
  have HMX : Hid (MaxIs w) := hmx
  have H0 : Hid (ReadAt s [] s.data.toList) := ⟨by simp, hsome, by rw [hsize_list]; simp; omega⟩
  have HSX : ¬ s.data.toList = [] → ∀ w, Calls Tryz.prog 82 #[.string s, .string ⟨#[13, 10]⟩] w fun e w' => e = .returned (.bool true) ∧ w' = w := fun h0 w => by
    have := hsuffix s w (by omega) h0
    rw [hsome] at this
    exact this
  have HEM := hmk_empty hne
  rw [← str_hmk] at HEM
  have HSK : Hid (.string s = Value.string (hmk s.data.toList)) := by show _ = _; rw [← str_hmk]
  have HSY := HSX hne
  clear hset hmx hsome hs HSX
  go_enter Tryz.func83, Tryz.ntmps83
  go_wp2_with fail
  refine (HSY _).mono ?_
  rintro e w1 ⟨rfl, rfl⟩
  clear HSY
  go_wp2_with fail
  go_loopw [3, 4] (fun v x wr => ∃ (R : List Hdr) (rl : List UInt8), x = .string (hmk rl) ∧ OwnH wr (w.heap.size + 1) v R ∧ ReadAt s R rl ∧ Below (w.heap.size + 1) (w.alloc (.cells #[.int .i64 0, .slice none 0 0] 84)) wr) (fun _ x _ => strLen x)
  case atStart => exact ⟨[], s.data.toList, HSK.out, OwnH.nil _ _, H0.out, Below.refl _ _⟩
  case round =>
    obtain ⟨R, rl, rfl, ho, hra, hb⟩ := hrel
    have HO : Hid (OwnH wr (w.heap.size + 1) u3 R) := ho
    have HR : Hid (ReadAt s R rl) := hra
    have hz : w.heap.size + 1 ≤ wr.heap.size := by have := hb.size; rwa [World.size_alloc] at this
    have HB : Hid (Below (w.heap.size + 1) (w.alloc (.cells #[.int .i64 0, .slice none 0 0] 84)) wr) := hb
    have hwr : Below w.heap.size w wr := (heads_room hb).2.2.2.2.2
    have HSr : Hid (SetIs wr) := HS.out.below hwr
    have HMr : Hid (MaxIs wr) := HMX.out.below hwr
    have hrl := hra.len
    clear ho hra hb H0 HSK HEM hwr
    by_cases h0 : rl = []
    · subst h0
      have HX : Hid (readT s.data.toList = some R) := HR.out.done
      obtain ⟨ra, rc, hra, hin⟩ := HO.out.at
      subst hra
      have HF := implHFault_any wr ra rc R (by omega) HSr.out hin
      clear HR hin HSr HMr
      rw [show hmk [] = ⟨#[]⟩ from rfl]
      by_cases hc : headsC R = 0
      · have HY : Hid (readHC s = 0 ∧ readHL s = R) := R0.out R HX.out hc
        rw [hc] at HF
        have HO2 : Hid (OwnH wr (w.heap.size + 1) (.slice ra R.length rc) R) := HO.out
        clear HX hc HO
        generalize R.length = rn at *
        go_wp2_with fail
        refine HF.mono ?_
        rintro e w2 ⟨rfl, hb2⟩
        obtain ⟨hz2, q0, q1, f0, f1, kb⟩ := heads_room (HB.out.trans (hb2.mono hz))
        obtain ⟨r0, r1⟩ := two_set (v0 := .int .i64 0) (v1 := .slice ra rn rc) q0 q1
        have HO3 : Hid (OwnH w2 (w.heap.size + 1) (.slice ra rn rc) R) := HO2.out.below hb2
        clear hb2 HB HO2 HF
        go_wp2_with fail
        exact bodyPost_ret (v := .agg #[.int .i64 0, .slice ra rn rc]) (by simp [results, Tryz.results83, go_sem, r0, r1]) rfl ⟨HRes.mk HY.out ((ownH_set (ownH_set HO3.out (Nat.lt_succ_self _)) (Nat.lt_succ_self _)).lower (Nat.le_succ _)), (kb.setCell (Nat.le_refl _) _).setCell (Nat.le_refl _) _⟩
      · have HY : Hid (readHC s = headsC R ∧ readHL s = []) := RF.out R HX.out hc
        generalize headsC R = fc at *
        clear HX HO
        generalize R.length = rn at *
        go_wp2_with fail
        refine HF.mono ?_
        rintro e w2 ⟨rfl, hb2⟩
        obtain ⟨hz2, q0, q1, f0, f1, kb⟩ := heads_room (HB.out.trans (hb2.mono hz))
        obtain ⟨r0, r1⟩ := two_set (v0 := .int .i64 fc) (v1 := .slice none 0 0) q0 q1
        clear hb2 HB HF
        go_wp2_with fail
        exact bodyPost_ret (v := .agg #[.int .i64 fc, .slice none 0 0]) (by simp [results, Tryz.results83, go_sem, r0, r1]) rfl ⟨HRes.mk HY.out (OwnH.nil _ _), (kb.setCell (Nat.le_refl _) _).setCell (Nat.le_refl _) _⟩
    · have hem := hmk_empty h0
      have hcr := (linesO_found h0 HR.out.isS).1
      have hroom := crAt_room rl hcr
      have HC1 : Hid (∀ W, MaxIs W → Calls Tryz.prog 64 #[.string (hmk rl), .string ⟨#[13, 10]⟩] W fun e w' => e = .returned (.tuple #[.string (hmk (rl.take (crAt rl))), .string (hmk (rl.drop (crAt rl + 2))), .bool true]) ∧ Below W.heap.size W w') := fun W h => hcut_cr rl W h (by omega) hcr
      have hpl : (rl.take (crAt rl)).length ≤ 6000 := by rw [List.length_take]; omega
      have hms : (hmk (rl.drop (crAt rl + 2))).size < (hmk rl).size := by rw [hmk_size, hmk_size, List.length_drop]; omega
      have HTK := HR.out.take h0
      have HBD := HR.out.bad h0
      generalize rl.take (crAt rl) = p at *
      generalize rl.drop (crAt rl + 2) = rr at *
      have HTK2 : Hid (clAt p < p.length → ReadAt s (R ++ [lineOf p]) rr) := HTK
      have HBD2 : Hid (¬ clAt p < p.length → readT s.data.toList = none) := HBD
      have hRl : R.length ≤ 6000 := by omega
      clear HTK HBD HR h0 hcr hroom hrl
      generalize hmk rl = rb at *
      by_cases hcl : clAt p < p.length
      · have HN : Hid (ReadAt s (R ++ [⟨hmk (p.take (clAt p)), trimT (hmk (p.drop (clAt p + 1)))⟩]) rr) := HTK2.out hcl
        have HC2 : Hid (∀ W, MaxIs W → Calls Tryz.prog 64 #[.string (hmk p), .string ⟨#[58]⟩] W fun e w' => e = .returned (.tuple #[.string (hmk (p.take (clAt p))), .string (hmk (p.drop (clAt p + 1))), .bool true]) ∧ Below W.heap.size W w') := fun W h => hcut_cl p W h hpl hcl
        have z1 : (hmk (p.take (clAt p))).size ≤ 6000 := by rw [hmk_size, List.length_take]; omega
        have hvl : (p.drop (clAt p + 1)).length ≤ 6000 := by rw [List.length_drop]; omega
        have z2 : (hmk (p.drop (clAt p + 1))).size ≤ 6000 := by rw [hmk_size]; exact hvl
        have z3 := trim_hmk _ hvl
        generalize hmk (p.take (clAt p)) = nb at *
        generalize hmk (p.drop (clAt p + 1)) = vb at *
        have HTR : Hid (∀ w, Calls Tryz.prog 123 #[.string vb, .string ⟨#[32, 9]⟩] w fun e w' => e = .returned (.string (trimT vb)) ∧ Below w.heap.size w w') := fun w => trim_big vb w (by omega)
        generalize trimT vb = tb at *
        generalize hmk p = pb at *
        clear HTK2 HBD2 hcl hvl
        go_wp2_with fail
        refine (HC1.out _ HMr.out).mono ?_
        rintro e w2 ⟨rfl, hb2⟩
        have HB2 : Hid (Below wr.heap.size wr w2) := hb2
        clear hb2
        go_wp2_with fail
        refine (HC2.out _ (HMr.out.below HB2.out)).mono ?_
        rintro e w3 ⟨rfl, hb3⟩
        have HB3 : Hid (Below wr.heap.size wr w3) := HB2.out.trans (hb3.mono HB2.out.size)
        clear hb3 HB2
        go_wp2_with fail
        refine (HTR.out _).mono ?_
        rintro e w4 ⟨rfl, hb4⟩
        have HB4 : Hid (Below wr.heap.size wr w4) := HB3.out.trans (hb4.mono HB3.out.size)
        clear hb4 HB3
        go_wp2_with fail
        refine (lineOf_any nb tb _ (by omega) (by omega)).mono ?_
        rintro e w5 ⟨rfl, hb5⟩
        have HB5 : Hid (Below wr.heap.size wr w5) := HB4.out.trans (hb5.mono HB4.out.size)
        have HO5 : Hid (OwnH w5 (w.heap.size + 1) u3 R) := HO.out.below HB5.out
        have HBw : Hid (Below (w.heap.size + 1) (w.alloc (.cells #[.int .i64 0, .slice none 0 0] 84)) w5) := HB.out.trans (HB5.out.mono hz)
        have hz5 : w.heap.size + 1 ≤ w5.heap.size := Nat.le_trans hz HB5.out.size
        clear hb5 HB4 HB5 HO HB HSr HMr
        go_wp2_with (at_builtin; refine wpList_append_hdr _ rfl (.tmp 42) (.tmp 47) rfl (w.heap.size + 1) _ R nb tb rfl rfl HO5.out (by omega) hz5 ?_; intro v6 w6 HO6 hb6 hz6 hk6)
        go_roundw
        case rel => exact ⟨R ++ [⟨nb, tb⟩], rr, rfl, HO6, HN.out, HBw.out.trans hb6⟩
        case measure => simpa [strLen] using hms
      · have HX : Hid (readHC s = 5 ∧ readHL s = []) := R5.out (HBD2.out hcl)
        have HC2 : Hid (∀ W, MaxIs W → Calls Tryz.prog 64 #[.string (hmk p), .string ⟨#[58]⟩] W fun e w' => e = .returned (.tuple #[.string (hmk p), .string ⟨#[]⟩, .bool false]) ∧ Below W.heap.size W w') := fun W h => hcut_no p W h hpl hcl
        generalize hmk p = pb at *
        clear HTK2 HBD2 hcl HO
        go_wp2_with fail
        refine (HC1.out _ HMr.out).mono ?_
        rintro e w2 ⟨rfl, hb2⟩
        have HB2 : Hid (Below wr.heap.size wr w2) := hb2
        clear hb2
        go_wp2_with fail
        refine (HC2.out _ (HMr.out.below HB2.out)).mono ?_
        rintro e w3 ⟨rfl, hb3⟩
        have HB3 : Below wr.heap.size wr w3 := HB2.out.trans (hb3.mono HB2.out.size)
        obtain ⟨hz2, q0, q1, f0, f1, kb⟩ := heads_room (HB.out.trans (HB3.mono hz))
        obtain ⟨r0, r1⟩ := two_set (v0 := .int .i64 5) (v1 := .slice none 0 0) q0 q1
        clear hb3 HB2 HB3 HB HMr HSr
        go_wp2_with fail
        exact bodyPost_ret (v := .agg #[.int .i64 5, .slice none 0 0]) (by simp [results, Tryz.results83, go_sem, r0, r1]) rfl ⟨HRes.mk HX.out (OwnH.nil _ _), (kb.setCell (Nat.le_refl _) _).setCell (Nat.le_refl _) _⟩
theorem readH_none : readHC ⟨#[]⟩ = 0 ∧ readHL ⟨#[]⟩ = [] := readH_ok (L := []) (by decide) readT_nil rfl
set_option maxRecDepth 100000 in
set_option maxHeartbeats 2000000 in
theorem implRead_none (w : World) (hset : SetIs w) :
    Calls Tryz.prog 83 #[.string ⟨#[]⟩] w fun e w' => HRes (readHC ⟨#[]⟩) (readHL ⟨#[]⟩) w.heap.size e w' ∧ Below w.heap.size w w' := by
  have HF := implHFault_any (w.alloc (.cells #[.int .i64 0, .slice none 0 0] 84)) none 0 [] (by simp) (hset.below ((Below.refl _ _).alloc (Nat.le_refl _) _)) (.inl rfl)
  rw [show headsC [] = 0 from rfl] at HF
  simp only [List.length_nil] at HF
  clear hset
  go_enter Tryz.func83, Tryz.ntmps83
  go_wp2_with fail
  go_loop [3, 4] (fun v x => v = .slice none 0 0 ∧ x = .string ⟨#[]⟩) (fun _ _ => 0)
  case atStart => exact ⟨rfl, rfl⟩
  case round =>
    obtain ⟨rfl, rfl⟩ := hrel
    go_wp2_with fail
    refine HF.mono ?_
    rintro e w2 ⟨rfl, hb2⟩
    rw [World.size_alloc] at hb2
    obtain ⟨hz2, q0, q1, f0, f1, kb⟩ := heads_room hb2
    obtain ⟨r0, r1⟩ := two_set (v0 := .int .i64 0) (v1 := .slice none 0 0) q0 q1
    clear hb2 HF
    go_wp2_with fail
    exact bodyPost_ret (v := .agg #[.int .i64 0, .slice none 0 0]) (by simp [results, Tryz.results83, go_sem, r0, r1]) rfl ⟨HRes.mk readH_none (OwnH.nil _ _), (kb.setCell (Nat.le_refl _) _).setCell (Nat.le_refl _) _⟩
set_option maxHeartbeats 2000000 in
theorem implRead_any (s : ByteArray) (w : World) (hset : SetIs w) (hmx : MaxIs w) :
    Calls Tryz.prog 83 #[.string s] w fun e w' => HRes (readHC s) (readHL s) w.heap.size e w' ∧ Below w.heap.size w w' := by
  by_cases hs : 6000 < s.size
  · have hh : (6000 : Int) < s.size := by omega
    have HL : Hid (readHC s = 2 ∧ readHL s = []) := readH_long hs
    clear hset hmx
    go_enter Tryz.func83, Tryz.ntmps83
    go_wp2
    exact bodyPost_ret (v := .agg #[.int .i64 2, .slice none 0 0]) (by simp [results, Tryz.results83, go_sem]) rfl ⟨HRes.mk HL.out (OwnH.nil _ _), (Below.refl _ _).alloc (Nat.le_refl _) _⟩
  cases hsm : (linesO s.data.toList).isSome
  · have h0 : ¬ s.data.toList = [] := fun e => by rw [e, linesO_nil] at hsm; cases hsm
    have HX : Hid (readHC s = 5 ∧ readHL s = []) := readH_bad hs (readT_none_of hsm)
    have HSX : Hid (∀ w, Calls Tryz.prog 82 #[.string s, .string ⟨#[13, 10]⟩] w fun e w' => e = .returned (.bool false) ∧ w' = w) := fun w => by
      have := hsuffix s w (by omega) h0
      rw [hsm] at this
      exact this
    have hem := hmk_empty h0
    rw [← str_hmk] at hem
    have hh : ¬ (6000 : Int) < s.size := by omega
    clear hset hmx hsm h0 hs
    go_enter Tryz.func83, Tryz.ntmps83
    go_wp2_with fail
    refine (HSX.out _).mono ?_
    rintro e w1 ⟨rfl, rfl⟩
    go_wp2_with fail
    exact bodyPost_ret (v := .agg #[.int .i64 5, .slice none 0 0]) (by simp [results, Tryz.results83, go_sem]) rfl ⟨HRes.mk HX.out (OwnH.nil _ _), (Below.refl _ _).alloc (Nat.le_refl _) _⟩
  · by_cases hne : s.data.toList = []
    · have e : s = ⟨#[]⟩ := by rw [str_hmk s, hne]; rfl
      subst e
      exact implRead_none w hset
    · exact implRead_loop s w hs hset hmx hsm hne
end Go.Proofs.YtonnggelpjjmmaaGreatDoor
/-
  Where a pattern stands first in a text; a text cut there. No Go in sight.
-/
namespace Go.Proofs.YtonnggelpjjmmaaGreatDoor
/-- Where the pattern stands first; the length where it does not. -/
def patAt (p : List UInt8) : List UInt8 → Nat
  | [] => 0
  | x :: r => if p.isPrefixOf (x :: r) = true then 0 else 1 + patAt p r
theorem patAt_le (p : List UInt8) : ∀ l : List UInt8, patAt p l ≤ l.length
  | [] => Nat.le_refl _
  | x :: r => by
    have := patAt_le p r
    rw [patAt]
    split
    · exact Nat.zero_le _
    · simp only [List.length_cons]; omega
theorem patAt_is (p : List UInt8) : ∀ l : List UInt8, patAt p l < l.length → p.isPrefixOf (l.drop (patAt p l)) = true
  | [], h => by simp [patAt] at h
  | x :: r, h => by
    rw [patAt] at h ⊢
    by_cases e : p.isPrefixOf (x :: r) = true
    · rw [if_pos e]; exact e
    · rw [if_neg e] at h ⊢
      have := patAt_is p r (by simp only [List.length_cons] at h; omega)
      rw [show 1 + patAt p r = patAt p r + 1 from by omega, List.drop_succ_cons]
      exact this
theorem patAt_not (p : List UInt8) : ∀ (l : List UInt8) (j : Nat), j < patAt p l → p.isPrefixOf (l.drop j) = false
  | [], j, h => by simp [patAt] at h
  | x :: r, j, h => by
    rw [patAt] at h
    by_cases e : p.isPrefixOf (x :: r) = true
    · rw [if_pos e] at h; omega
    · rw [if_neg e] at h
      cases j with
      | zero => rw [List.drop_zero]; exact Bool.eq_false_iff.2 e
      | succ j => rw [List.drop_succ_cons]; exact patAt_not p r j (by omega)
theorem patAt_of (p : List UInt8) : ∀ (l : List UInt8) (k : Nat), k < l.length → p.isPrefixOf (l.drop k) = true → (∀ j, j < k → p.isPrefixOf (l.drop j) = false) → patAt p l = k
  | [], k, h, _, _ => by simp at h
  | x :: r, 0, _, h, _ => by rw [patAt, if_pos (by simpa using h)]
  | x :: r, k + 1, hk, h, hn => by
    have h0 := hn 0 (by omega)
    rw [patAt, if_neg (by rw [List.drop_zero] at h0; rw [h0]; decide), patAt_of p r k (by simpa using hk) (by simpa using h) (fun j hj => by simpa using hn (j + 1) (by omega))]
    omega
theorem patAt_none (p : List UInt8) : ∀ (l : List UInt8), (∀ j, j < l.length → p.isPrefixOf (l.drop j) = false) → patAt p l = l.length
  | [], _ => rfl
  | x :: r, h => by
    have h0 := h 0 (by simp)
    rw [patAt, if_neg (by rw [List.drop_zero] at h0; rw [h0]; decide), patAt_none p r (fun j hj => by simpa using h (j + 1) (by simpa using hj))]
    simp only [List.length_cons]; omega
theorem index_pat {p : List UInt8} (hp : p ≠ []) (l : List UInt8) : Lib.index l p = if patAt p l < l.length then (patAt p l : Int) else -1 := by
  by_cases h : patAt p l < l.length
  · rw [if_pos h]
    exact Lib.index_first (Nat.le_of_lt h) (patAt_is p l h) (fun j hj => patAt_not p l j hj)
  · rw [if_neg h]
    have e : patAt p l = l.length := by have := patAt_le p l; omega
    refine Lib.index_none fun j hj => ?_
    by_cases c : j < patAt p l
    · exact patAt_not p l j c
    · have : j = l.length := by omega
      subst this
      cases p with
      | nil => exact absurd rfl hp
      | cons a p => simp [Lib.occAt]
theorem cut_pat {p l : List UInt8} (hp : p ≠ []) (h : patAt p l < l.length) : Lib.cut l p = (l.take (patAt p l), l.drop (patAt p l + p.length), true) := by
  unfold Lib.cut
  rw [index_pat hp, if_pos h, if_pos (by omega)]
  rfl
theorem cut_pat_no {p l : List UInt8} (hp : p ≠ []) (h : ¬ patAt p l < l.length) : Lib.cut l p = (l, [], false) := by
  unfold Lib.cut
  rw [index_pat hp, if_neg h, if_neg (by omega)]
theorem pre_one (c x : UInt8) (r : List UInt8) : ([c] : List UInt8).isPrefixOf (x :: r) = decide (x = c) := by
  simp only [List.isPrefixOf, Bool.and_true]
  by_cases h : x = c
  · subst h; simp
  · rw [beq_eq_false_iff_ne.2 (fun e => h e.symm)]; simp [h]
/-- What is cut at a byte, by the place where the byte stands first. -/
theorem cutG_pat (c : UInt8) : ∀ (l cur : List UInt8), cutG c cur l = if patAt [c] l < l.length then (cur ++ l.take (patAt [c] l)) :: cutG c [] (l.drop (patAt [c] l + 1)) else [cur ++ l]
  | [], cur => by simp [cutG, patAt]
  | x :: r, cur => by
    rw [patAt, pre_one]
    by_cases h : x = c
    · subst h
      rw [cutG_at]; simp
    · rw [cutG_on _ _ h, cutG_pat c r (cur ++ [x])]
      simp only [h, decide_false, Bool.false_eq_true, if_false, List.length_cons]
      by_cases q : patAt [c] r < r.length
      · rw [if_pos q, if_pos (by omega), show 1 + patAt [c] r = patAt [c] r + 1 from by omega]
        simp
      · rw [if_neg q, if_neg (by omega)]
        simp
theorem splitK_cut (c : UInt8) : ∀ (n : Nat) (l : List UInt8), l.length ≤ n → Lib.splitK [c] 0 (Lib.count l [c]) l = cutG c [] l := by
  intro n
  induction n with
  | zero =>
    intro l h
    have : l = [] := List.eq_nil_of_length_eq_zero (by omega)
    subst this
    rw [Lib.count_miss (by simp [Lib.index])]
    rfl
  | succ n ih =>
    intro l h
    rw [cutG_pat]
    by_cases q : patAt [c] l < l.length
    · have hi : Lib.index l [c] = (patAt [c] l : Nat) := by rw [index_pat (by simp), if_pos q]
      rw [Lib.count_hit (by simp) hi, Nat.add_comm, Lib.splitK, if_neg (by rw [hi]; simp), hi, if_pos q]
      have e := ih (l.drop (patAt [c] l + 1)) (by rw [List.length_drop]; omega)
      simp only [Int.toNat_natCast, List.length_singleton, Nat.add_zero, List.nil_append]
      rw [e]
    · rw [Lib.count_miss (by rw [index_pat (by simp), if_neg q]), if_neg q]
      rfl
theorem splitB_cut (c : UInt8) (s : ByteArray) : Lib.splitB ⟨#[c]⟩ 0 (Lib.countB s ⟨#[c]⟩) s = (cutG c [] s.data.toList).map hmk := by
  have h := Lib.splitB_data ⟨#[c]⟩ 0 (Lib.countB s ⟨#[c]⟩) s
  have e : (Lib.splitB ⟨#[c]⟩ 0 (Lib.countB s ⟨#[c]⟩) s) = ((Lib.splitB ⟨#[c]⟩ 0 (Lib.countB s ⟨#[c]⟩) s).map (·.data.toList)).map hmk := by
    rw [List.map_map]
    have : (hmk ∘ fun x : ByteArray => x.data.toList) = id := by
      funext x
      cases x
      simp [hmk]
    rw [this, List.map_id]
  rw [e, h]
  congr 1
  exact splitK_cut c _ s.data.toList (Nat.le_refl _)
theorem cutG_count (c : UInt8) (s : ByteArray) : Lib.countB s ⟨#[c]⟩ + 1 = (cutG c [] s.data.toList).length := by
  have h := Lib.splitB_all ⟨#[c]⟩ (Nat.le_refl _) 0 _ s rfl
  rw [splitB_cut, List.length_map] at h
  exact h.symm
end Go.Proofs.YtonnggelpjjmmaaGreatDoor
/-
  What queryPieces answers.
-/
namespace Go.Proofs.YtonnggelpjjmmaaGreatDoor
open Go.ChangeShapes Go.WideShapes Go.ChangeAt Go.RowKit
set_option maxHeartbeats 1000000 in
theorem amp_any (x : Nat) (w : World) : Calls Tryz.prog 102 #[.int .i32 (x : Int)] w fun e w' => e = .returned (.bool (amp x)) ∧ w' = w := by
  have HE : Hid (amp x = ((x : Int) == 38)) := by
    show _ = _
    unfold amp
    by_cases h : x = 38
    · subst h; rfl
    · rw [beq_eq_false_iff_ne.2 h, beq_eq_false_iff_ne.2 (by omega)]
  go_enter Tryz.func102, Tryz.ntmps102
  go_wp2
  go_ret
  exact ⟨by rw [HE.out]; rfl, rfl⟩
def qParts (s : ByteArray) : List (List UInt8) := fullP (cutG 38 [] s.data.toList)
theorem qParts_len (s : ByteArray) : (qParts s).length ≤ s.size + 1 := by
  have h1 := fullP_len (cutG 38 [] s.data.toList)
  have h2 := cutG_len 38 s.data.toList []
  rw [hsize_list] at h2
  unfold qParts
  omega
theorem fields_any (s : ByteArray) (w : World) (hs : s.size ≤ 6000) (ha : ∀ (i : Nat) (h : i < s.size), s[i].toNat < 128) :
    Calls Tryz.prog 101 #[.string s, .func (.func 102) #[] #[]] w fun e w' => ∃ A, e = .returned (.slice (some ⟨A, 0, none⟩) (qParts s).length (qParts s).length) ∧ OwnS w' w.heap.size (.slice (some ⟨A, 0, none⟩) (qParts s).length (qParts s).length) ((qParts s).map hmk) ∧ Below w.heap.size w w' := by
  have hp : PredAtRunes Tryz.prog 102 #[] amp w := fun W x _ _ => (amp_any x W).mono fun e w' ⟨h1, h2⟩ => ⟨h1, 0, by rw [h2]; rfl⟩
  have h := Any.strings_FieldsFunc_runes Tryz.lays229 102 #[] (enters_of Tryz.func102 (by kernel_rfl) rfl) amp s w (by omega) hp (by kernel_rfl) (by kernel_rfl)
  have e1 : Lib.goFieldsP amp s = (qParts s).map hmk := fields_amp s ha
  rw [e1, List.length_map] at h
  refine h.mono ?_
  rintro e w' ⟨A, h1, _, h3, h4⟩
  refine ⟨A, h1, ?_, h4⟩
  unfold OwnS textsW
  rw [List.length_map]
  exact h3
theorem textsW_enc (l : List (List UInt8)) : textsW (l.map hmk) = l.map encStr := by
  unfold textsW
  rw [List.map_map]
  rfl
theorem sort_own (P : List (List UInt8)) (w w1 : World) (A : Nat) (hP : P.length ≤ 6001) (ho : OwnS w1 w.heap.size (.slice (some ⟨A, 0, none⟩) P.length P.length) (P.map hmk)) (hb : Below w.heap.size w w1) :
    Calls Tryz.prog 103 #[.slice (some ⟨A, 0, none⟩) P.length P.length] w1 fun e w' => e = .returned (.tuple #[]) ∧ OwnS w' w.heap.size (.slice (some ⟨A, 0, none⟩) P.length P.length) ((sortS P).map hmk) ∧ Below w.heap.size w w' := by
  obtain ⟨h0, h1 | ⟨g, c, cur, e, hg, hh, hc1, hc2, hc3, hc4⟩⟩ := ho
  · exact absurd h1.1 (by simp)
  · simp only [Value.slice.injEq, Option.some.injEq, Addr.mk.injEq, and_true] at e
    obtain ⟨rfl, _, rfl⟩ := e
    rw [textsW_enc, List.length_map] at hc4
    rw [List.length_map] at hc1
    have hlt := (Array.getElem?_eq_some_iff.1 hh).1
    refine (Any.slices_Sort_string Tryz.lays190 A 0 P.length P w1 (holds_of_block hh (by simpa using hc4)) hlt (by omega)).mono ?_
    rintro e w2 ⟨rfl, n, os, rfl⟩
    rw [merge_eq]
    refine ⟨rfl, ?_, hb.grown (grownBy_sorted _) hb.size (fun j hj => by cases hj; exact hg)⟩
    have e2 := ownsRow_sorted (n := n) (os := os) (sortS_len P) hg hh hc1 hc2 (by simpa using hc3)
    unfold OwnS
    rw [textsW_enc, List.length_map, sortS_len]
    exact e2
set_option maxRecDepth 100000 in
set_option maxHeartbeats 2000000 in
theorem queryPieces_any (s : ByteArray) (w : World) (hs : s.size ≤ 6000) (ha : ∀ (i : Nat) (h : i < s.size), s[i].toNat < 128) :
    Calls Tryz.prog 65 #[.string s] w fun e w' => CutRes (sortS (qParts s)) w.heap.size e w' ∧ Below w.heap.size w w' := by
  have C := fields_any s w hs ha
  have hQ := qParts_len s
  generalize qParts s = P at *
  go_enter Tryz.func65, Tryz.ntmps65
  go_wp2_with fail
  refine C.mono ?_
  rintro e w1 ⟨A, rfl, ho, hb⟩
  have C2 := sort_own P w w1 A (by omega) ho hb
  clear ho hb C
  go_wp2_with fail
  refine C2.mono ?_
  rintro e w2 ⟨rfl, ho2, hb2⟩
  have HO : Hid (OwnS w2 w.heap.size (.slice (some ⟨A, 0, none⟩) P.length P.length) ((sortS P).map hmk)) := ho2
  have HB2 : Hid (Below w.heap.size w w2) := hb2
  clear C2 ho2 hb2
  go_wp2_with fail
  go_ret
  exact ⟨⟨_, rfl, HO.out⟩, HB2.out⟩
end Go.Proofs.YtonnggelpjjmmaaGreatDoor
/-
  What KeyOf and its model answer.
-/
namespace Go.Proofs.YtonnggelpjjmmaaGreatDoor
open Go.ChangeShapes Go.WideShapes Go.ChangeAt Go.RowKit
def keyR (m h p : ByteArray) (l : List Hdr) : ByteArray := if reqC m h p l = 0 then hmk (keyT h p) else ⟨#[]⟩
theorem keyR_ok {m h p : ByteArray} {l : List Hdr} (c : reqC m h p l = 0) : keyR m h p l = hmk (keyT h p) := by rw [keyR, if_pos c]
theorem keyR_bad {m h p : ByteArray} {l : List Hdr} (c : ¬ reqC m h p l = 0) : keyR m h p l = ⟨#[]⟩ := by rw [keyR, if_neg c]
theorem qAt_pat : ∀ l : List UInt8, qAt l = patAt [63] l
  | [] => rfl
  | x :: r => by
    rw [qAt, patAt, pre_one, qAt_pat r]
    by_cases h : x = 63
    · simp [h]
    · simp [h]; try omega
theorem kcut_any (p : ByteArray) (w : World) (hm : MaxIs w) (hp : p.size ≤ 6000) :
    Calls Tryz.prog 64 #[.string p, .string ⟨#[63]⟩] w fun e w' => e = .returned (.tuple #[.string (hmk (p.data.toList.take (qAt p.data.toList))), .string (hmk (p.data.toList.drop (qAt p.data.toList + 1))), .bool (decide (qAt p.data.toList < p.data.toList.length))]) ∧ Below w.heap.size w w' := by
  obtain ⟨m, hm⟩ := hm
  have h := Any.strings_Cut Tryz.laysM145.ton145 p ⟨#[63]⟩ m w (by omega) hm
  rw [show (⟨#[63]⟩ : ByteArray).data.toList = [63] from rfl] at h
  rw [qAt_pat]
  by_cases c : patAt [63] p.data.toList < p.data.toList.length
  · rw [cut_pat (by simp) c] at h
    rw [decide_eq_true c]
    exact h.mono fun e w' ⟨h1, n, h2⟩ => ⟨h1, h2 ▸ below_drewN w n⟩
  · rw [cut_pat_no (by simp) c] at h
    rw [decide_eq_false c, List.take_of_length_le (by omega), List.drop_of_length_le (by omega)]
    exact h.mono fun e w' ⟨h1, n, h2⟩ => ⟨h1, h2 ▸ below_drewN w n⟩
theorem join_amp (w : World) (base : Nat) (v : Value) (xs : List ByteArray) (h : OwnS w base v xs) (hN : xs.length ≤ 1000000) (hlen : (Lib.join (xs.map (·.data.toList)) [38]).length ≤ 1000000) :
    Calls Tryz.prog 66 #[v, .string ⟨#[38]⟩] w fun e w' => e = .returned (.string ⟨(Lib.join (xs.map (·.data.toList)) [38]).toArray⟩) ∧ Below w.heap.size w w' := by
  have h0 := h
  obtain ⟨_, h1 | ⟨g, c, cur, rfl, _, hh, hcap, _⟩⟩ := h
  · have : xs = [] := List.eq_nil_of_length_eq_zero h1.2
    subst this
    rw [h1.1]
    exact (Any.strings_Join_none Tryz.lays156 joinExtra none 0 ⟨#[38]⟩ w).mono fun e w' ⟨he, hw⟩ => ⟨he, hw ▸ Below.refl _ _⟩
  · refine Any.strings_Join Tryz.lays156 joinExtra g 0 c xs ⟨#[38]⟩ w ?_ (Array.getElem?_eq_some_iff.1 hh).1 (by omega) hcap (by simpa using (by omega : (Lib.join (xs.map (·.data.toList)) [38]).length ≤ 140737488355328))
    intro j x hj
    have hj2 := (List.getElem?_eq_some_iff.1 hj).1
    have := World.ownsRow.cellAt h0 j (by omega)
    rw [show 0 + j = j from by omega]
    rw [this]
    simp [textsW, hj]
theorem hmk_back (S : List (List UInt8)) : (S.map hmk).map (·.data.toList) = S := by
  rw [List.map_map]
  have : ((fun x : ByteArray => x.data.toList) ∘ hmk) = id := by funext x; simp [hmk]
  rw [this, List.map_id]
theorem path_ascii {p : ByteArray} (h : pathS p = true) (k : Nat) : ∀ (i : Nat) (hi : i < (hmk (p.data.toList.drop k)).size), (hmk (p.data.toList.drop k))[i].toNat < 128 := by
  intro i hi
  have hm : (hmk (p.data.toList.drop k))[i] ∈ p.data.toList := by
    have h1 : (hmk (p.data.toList.drop k))[i] ∈ (hmk (p.data.toList.drop k)).data.toList := by
      show (hmk (p.data.toList.drop k)).data[i] ∈ _
      exact Array.mem_toList_iff.2 (Array.getElem_mem _)
    rw [hmk_list] at h1
    exact List.mem_of_mem_drop h1
  have h2 : allP pathI p.data.toList = true := by
    simp only [pathS, Bool.and_eq_true] at h
    exact h.2
  have h3 := allP_mem h2 _ hm
  by_cases c : (hmk (p.data.toList.drop k))[i].toNat < 128
  · exact c
  · rw [pathI_big _ (by omega)] at h3; cases h3
set_option maxRecDepth 100000 in
set_option maxHeartbeats 8000000 in
theorem implKey_any (E : Errs) (w : World) (m h p : ByteArray) (a : Option Addr) (cap : Nat) (l : List Hdr) (hl : l.length ≤ 1048576) (hcap : l.length ≤ cap) (hps : p.size ≤ 1048576) (hset : SetIs w) (hE : ErrsIs w E) (hmx : MaxIs w) (hi : HdsIn w a l) :
    Calls Tryz.prog 27 #[.agg #[.string m, .string h, .string p, .slice a l.length cap]] w fun e w' => e = .returned (.agg #[.int .i64 (reqC m h p l), .string (keyR m h p l)]) ∧ Below w.heap.size w w' := by
  obtain ⟨W, hW⟩ : ∃ W, W = (w.alloc (.cells #[.string m, .string h, .string p, .slice a l.length cap] 26)).alloc (.cells #[.int .i64 0, .string ⟨#[]⟩] 50) := ⟨_, rfl⟩
  have HW : Hid (W = (w.alloc (.cells #[.string m, .string h, .string p, .slice a l.length cap] 26)).alloc (.cells #[.int .i64 0, .string ⟨#[]⟩] 50)) := hW
  have bW : Below w.heap.size w W := by rw [hW]; exact ((Below.refl _ _).alloc (Nat.le_refl _) _).alloc (by simp) _
  have f0 : Four W w.heap.size (.string m) (.string h) (.string p) (.slice a l.length cap) := by rw [hW]; exact (Four.new _ _ _ _ _ _).keep ((Below.refl _ _).alloc (Nat.le_refl _) _)
  have t0 : Two W (w.heap.size + 1) (.int .i64 0) (.string ⟨#[]⟩) := by
    rw [hW]
    have := Two.new (w.alloc (.cells #[.string m, .string h, .string p, .slice a l.length cap] 26)) (.int .i64 0) (.string ⟨#[]⟩) 50
    simpa using this
  have C := implReq_any E W m h p a cap l hl hcap hps (hset.below bW) (hE.below bW) (hi.keep bW)
  have K0 : Hid (Below w.heap.size w W ∧ Four W w.heap.size (.string m) (.string h) (.string p) (.slice a l.length cap) ∧ Two W (w.heap.size + 1) (.int .i64 0) (.string ⟨#[]⟩)) := ⟨bW, f0, t0⟩
  have HM : Hid (∀ X, Below w.heap.size w X → MaxIs X) := fun X hb => hmx.below hb
  have HCC : Hid ((reqC m h p l = 0 → keyR m h p l = hmk (keyT h p) ∧ lineS m h p = true ∧ h.size ≤ 60 ∧ p.size ≤ 100) ∧ (¬ reqC m h p l = 0 → keyR m h p l = ⟨#[]⟩)) := ⟨fun c0 => ⟨keyR_ok c0, (reqC_zero c0).1, (method_size (reqC_zero c0).1).2⟩, keyR_bad⟩
  clear hW bW f0 t0 hi hset hE hmx
  generalize keyR m h p l = kr at *
  generalize reqC m h p l = c at *
  have hc3 := K0.out.2.1.c3
  rw [HW.out] at hc3
  go_enter Tryz.func27, Tryz.ntmps27
  go_wp2_with fail
  rw [← HW.out]
  refine C.mono ?_
  rintro e w1 ⟨rfl, hb1⟩
  have K1 : Hid (Below w.heap.size w w1 ∧ Four w1 w.heap.size (.string m) (.string h) (.string p) (.slice a l.length cap) ∧ Two w1 (w.heap.size + 1) (.int .i64 0) (.string ⟨#[]⟩)) := ⟨K0.out.1.trans (hb1.mono K0.out.1.size), K0.out.2.1.keep hb1, K0.out.2.2.keep hb1⟩
  clear C hb1 K0 HW hc3
  by_cases c0 : c = 0
  · subst c0
    obtain ⟨z1, y1, z2, z3⟩ := HCC.out.1 rfl
    have C5 := kcut_any p w1 (HM.out w1 K1.out.1) (by omega)
    have HPA := path_ascii (lineS_true y1).2.2 (qAt p.data.toList + 1)
    obtain ⟨S, hS⟩ : ∃ S, S = sortS (qParts (hmk (p.data.toList.drop (qAt p.data.toList + 1)))) := ⟨_, rfl⟩
    have hSk : S = keyParts p.data.toList := by rw [hS]; unfold qParts keyParts; rw [hmk_list]
    have hSl : S.length ≤ 101 := by rw [hSk]; have := keyParts_len p.data.toList; rw [hsize_list] at this; omega
    have hSs : sumL S ≤ 100 := by rw [hSk]; have := keyParts_sum p.data.toList; rw [hsize_list] at this; omega
    have HQ : Hid (∀ X, Calls Tryz.prog 65 #[.string (hmk (p.data.toList.drop (qAt p.data.toList + 1)))] X fun e w' => CutRes S X.heap.size e w' ∧ Below X.heap.size X w') := fun X => by
      rw [hS]
      exact queryPieces_any _ X (by rw [hmk_size, List.length_drop, hsize_list]; omega) HPA
    have HL : Hid (∀ X, Calls Tryz.prog 28 #[.string h] X fun e w' => e = .returned (.agg #[.int .i64 0, .string (lowS h)]) ∧ Below X.heap.size X w') := fun X => implLower_any h X (by omega)
    obtain ⟨o0, ho0⟩ : ∃ o : ByteArray, o = lowS h ++ hmk (p.data.toList.take (qAt p.data.toList)) := ⟨_, rfl⟩
    have so0 : o0.size ≤ 160 := by rw [ho0, ByteArray.size_append, lowS_size, hmk_size, List.length_take, hsize_list]; omega
    have add0 : ∀ X, (Op.stringOp .add (lowS h) (hmk (p.data.toList.take (qAt p.data.toList)))).run Tryz.prog X = .ok (.string o0) X := fun X => by rw [ho0]; exact run_string_add_sum X _ _ (by rw [lowS_size, hmk_size, List.length_take, hsize_list]; omega)
    have HR : Hid (∀ t : ByteArray, t.data.toList = o0.data.toList ++ keyQ S → t = kr) := fun t ht => by
      rw [z1]
      refine hof_list ?_
      rw [ht, ho0, happ_list, hmk_list, keyT, hSk]
    clear ho0 hS hSk HPA y1 z1 HCC
    generalize lowS h = lw at *
    generalize hmk (p.data.toList.take (qAt p.data.toList)) = pt at *
    generalize hmk (p.data.toList.drop (qAt p.data.toList + 1)) = qy at *
    generalize decide (qAt p.data.toList < p.data.toList.length) = fb at *
    have hft := f_field_text
    obtain ⟨q0, q1, q2, q3, _, _⟩ := K1.out.2.1
    go_wp2_with fail
    refine C5.mono ?_
    rintro e w2 ⟨rfl, hb2⟩
    have K2 : Hid (Below w.heap.size w w2 ∧ Four w2 w.heap.size (.string m) (.string h) (.string p) (.slice a l.length cap) ∧ Two w2 (w.heap.size + 1) (.int .i64 0) (.string ⟨#[]⟩)) := ⟨K1.out.1.trans (hb2.mono K1.out.1.size), K1.out.2.1.keep hb2, K1.out.2.2.keep hb2⟩
    clear C5 hb2 K1 q0 q1 q2 q3
    have C6 := HL.out w2
    obtain ⟨q0, q1, q2, q3, _, _⟩ := K2.out.2.1
    go_wp2_with fail
    refine C6.mono ?_
    rintro e w3 ⟨rfl, hb3⟩
    have K3 : Hid (Below w.heap.size w w3 ∧ Two w3 (w.heap.size + 1) (.int .i64 0) (.string ⟨#[]⟩)) := ⟨K2.out.1.trans (hb3.mono K2.out.1.size), K2.out.2.2.keep hb3⟩
    clear C6 hb3 K2 q0 q1 q2 q3 HL
    have C7 := HQ.out w3
    go_wp2_with fail
    refine C7.mono ?_
    rintro e w4 ⟨⟨v, rfl, ho⟩, hb4⟩
    have K4 : Hid (Below w.heap.size w w4 ∧ Two w4 (w.heap.size + 1) (.int .i64 0) (.string ⟨#[]⟩)) := ⟨K3.out.1.trans (hb4.mono K3.out.1.size), K3.out.2.keep hb4⟩
    obtain ⟨a5, c5, rfl, _⟩ := ho.shape
    rw [List.length_map] at ho ⊢
    have HO : Hid (OwnS w4 w3.heap.size (.slice a5 S.length c5) (S.map hmk)) := ho
    clear C7 hb4 K3 HQ ho
    obtain ⟨r0, r1, rf, _⟩ := K4.out.2
    have rf0 := rf 0
    have rf1 := rf 1
    clear rf
    by_cases hn : S.length = 0
    · have HE : Hid (o0 = kr) := by
        refine HR.out o0 ?_
        have : S = [] := List.eq_nil_of_length_eq_zero hn
        rw [this, keyQ_nil, List.append_nil]
      have gn : ¬ (0 : Int) < S.length := by omega
      clear HR HO
      generalize S.length = n at *
      go_wp2_with fail
      have T2 := two_put (v0 := .int .i64 0) (v1 := .string o0) K4.out.2
      exact bodyPost_ret (v := .agg #[.int .i64 0, .string o0]) (by simp [results, Tryz.results27, go_sem, T2.c0, T2.c1]) rfl ⟨by rw [HE.out], (K4.out.1.setCell (by simp) _).setCell (by simp) _⟩
    · have gn : (0 : Int) < S.length := by omega
      have hjl : (Lib.join S [38]).length ≤ 1000 := by
        have := keyQ_len S
        rw [keyQ, if_neg (fun e => hn (by rw [e]; rfl)), List.length_cons] at this
        omega
      have C8 := join_amp w4 w3.heap.size _ _ HO.out (by rw [List.length_map]; omega) (by rw [hmk_back]; omega)
      rw [hmk_back] at C8
      obtain ⟨j, hj⟩ : ∃ j : ByteArray, j = ⟨(Lib.join S [38]).toArray⟩ := ⟨_, rfl⟩
      rw [← hj] at C8
      have sj : j.size ≤ 1000 := by rw [hj]; show (Lib.join S [38]).toArray.size ≤ 1000; rw [List.size_toArray]; exact hjl
      have lit1 : (⟨#[63]⟩ : ByteArray).size = 1 := rfl
      obtain ⟨x1, hx1⟩ : ∃ x : ByteArray, x = ⟨#[63]⟩ ++ j := ⟨_, rfl⟩
      have sx1 : x1.size = 1 + j.size := by rw [hx1, ByteArray.size_append, lit1]
      have add1 : ∀ X, (Op.stringOp .add ⟨#[63]⟩ j).run Tryz.prog X = .ok (.string x1) X := fun X => by rw [hx1]; exact run_string_add_sum X _ _ (by omega)
      obtain ⟨x2, hx2⟩ : ∃ x : ByteArray, x = o0 ++ x1 := ⟨_, rfl⟩
      have add2 : ∀ X, (Op.stringOp .add o0 x1).run Tryz.prog X = .ok (.string x2) X := fun X => by rw [hx2]; exact run_string_add_sum X _ _ (by omega)
      have HE : Hid (x2 = kr) := by
        refine HR.out x2 ?_
        rw [hx2, happ_list, hx1, happ_list, hj, keyQ, if_neg (fun e => hn (by rw [e]; rfl))]
        simp
      clear HR HO hx1 hx2 hj sx1 lit1 sj hjl hn hSs hSl
      generalize S.length = n at *
      go_wp2_with fail
      refine C8.mono ?_
      rintro e w5 ⟨rfl, hb5⟩
      have K5 : Hid (Below w.heap.size w w5 ∧ Two w5 (w.heap.size + 1) (.int .i64 0) (.string ⟨#[]⟩)) := ⟨K4.out.1.trans (hb5.mono K4.out.1.size), K4.out.2.keep hb5⟩
      clear C8 hb5 K4 r0 r1 rf0 rf1
      obtain ⟨r0, r1, rf, _⟩ := K5.out.2
      have rf0 := rf 0
      have rf1 := rf 1
      clear rf
      go_wp2_with fail
      have T2 := two_put (v0 := .int .i64 0) (v1 := .string x2) K5.out.2
      exact bodyPost_ret (v := .agg #[.int .i64 0, .string x2]) (by simp [results, Tryz.results27, go_sem, T2.c0, T2.c1]) rfl ⟨by rw [HE.out], (K5.out.1.setCell (by simp) _).setCell (by simp) _⟩
  · have HR : Hid (kr = ⟨#[]⟩) := HCC.out.2 c0
    obtain ⟨r0, r1, rf, _⟩ := K1.out.2.2
    have rf0 := rf 0
    have rf1 := rf 1
    clear rf HM HCC
    go_wp2_with fail
    have T2 := two_put (v0 := .int .i64 c) (v1 := .string ⟨#[]⟩) K1.out.2.2
    exact bodyPost_ret (v := .agg #[.int .i64 c, .string ⟨#[]⟩]) (by simp [results, Tryz.results27, go_sem, T2.c0, T2.c1]) rfl ⟨by rw [HR.out], (K1.out.1.setCell (by simp) _).setCell (by simp) _⟩
end Go.Proofs.YtonnggelpjjmmaaGreatDoor
/-
  What the model's FullKey answers.
-/
namespace Go.Proofs.YtonnggelpjjmmaaGreatDoor
open Go.ChangeShapes Go.WideShapes Go.ChangeAt Go.RowKit Go.Sort
def wordsA (ns : List ByteArray) : Bool := ns.all wordS
def namesC (ns : List ByteArray) : Int := if 4 < ns.length then 2 else if wordsA ns = true then 0 else 5
theorem namesC_many {ns : List ByteArray} (h : 4 < ns.length) : namesC ns = 2 := by rw [namesC, if_pos h]
theorem namesC_ok {ns : List ByteArray} (h : ¬ 4 < ns.length) (h2 : wordsA ns = true) : namesC ns = 0 := by rw [namesC, if_neg h, if_pos h2]
theorem namesC_bad {ns : List ByteArray} (h : ¬ 4 < ns.length) (h2 : wordsA ns = false) : namesC ns = 5 := by rw [namesC, if_neg h, if_neg (by rw [h2]; decide)]
theorem wordsA_not {ns : List ByteArray} {k : Nat} {x : ByteArray} (h : ns[k]? = some x) (hw : wordS x = false) : wordsA ns = false := by
  have hm := List.mem_of_getElem? h
  cases hc : wordsA ns
  · rfl
  · have := List.all_eq_true.1 hc x hm
    rw [hw] at this; cases this
theorem wordsA_of {ns : List ByteArray} (h : ∀ (k : Nat) x, ns[k]? = some x → wordS x = true) : wordsA ns = true := by
  refine List.all_eq_true.2 fun x hx => ?_
  obtain ⟨i, hi⟩ := List.getElem?_of_mem hx
  exact h i x hi
theorem wordsA_mem {ns : List ByteArray} (h : wordsA ns = true) {k : Nat} {x : ByteArray} (hx : ns[k]? = some x) : wordS x = true := List.all_eq_true.1 h x (List.mem_of_getElem? hx)
/-- What one name adds. -/
def addN (l : List Hdr) (o : List UInt8) (nm : ByteArray) : List UInt8 := o ++ [32] ++ (lowS nm).data.toList ++ [61] ++ hjoinL (valsOf (lowS nm) l)
def fullL (h p : ByteArray) (l : List Hdr) (ns : List ByteArray) : List UInt8 := ns.foldl (addN l) (keyT h p)
theorem fullL_take {h p : ByteArray} {l : List Hdr} {ns : List ByteArray} {k : Nat} {x : ByteArray} (hx : ns[k]? = some x) : fullL h p l (ns.take (k + 1)) = addN l (fullL h p l (ns.take k)) x := by
  rw [List.take_add_one, hx]
  simp [fullL]
def fullC (m h p : ByteArray) (l : List Hdr) (ns : List ByteArray) : Int := if reqC m h p l = 0 then namesC ns else reqC m h p l
def fullR (m h p : ByteArray) (l : List Hdr) (ns : List ByteArray) : ByteArray := if fullC m h p l ns = 0 then hmk (fullL h p l ns) else ⟨#[]⟩
theorem fullC_bad {m h p : ByteArray} {l : List Hdr} {ns : List ByteArray} (c : ¬ reqC m h p l = 0) : fullC m h p l ns = reqC m h p l ∧ fullR m h p l ns = ⟨#[]⟩ := by
  have e : fullC m h p l ns = reqC m h p l := by rw [fullC, if_neg c]
  exact ⟨e, by rw [fullR, if_neg (by rw [e]; exact c)]⟩
theorem fullC_names {m h p : ByteArray} {l : List Hdr} {ns : List ByteArray} (c : reqC m h p l = 0) (c2 : ¬ namesC ns = 0) : fullC m h p l ns = namesC ns ∧ fullR m h p l ns = ⟨#[]⟩ := by
  have e : fullC m h p l ns = namesC ns := by rw [fullC, if_pos c]
  exact ⟨e, by rw [fullR, if_neg (by rw [e]; exact c2)]⟩
theorem fullC_ok {m h p : ByteArray} {l : List Hdr} {ns : List ByteArray} (c : reqC m h p l = 0) (c2 : namesC ns = 0) : fullC m h p l ns = 0 ∧ fullR m h p l ns = hmk (fullL h p l ns) := by
  have e : fullC m h p l ns = 0 := by rw [fullC, if_pos c]; exact c2
  exact ⟨e, by rw [fullR, if_pos e]⟩
theorem keyT_len {h p : ByteArray} (hh : h.size ≤ 60) (hp : p.size ≤ 100) : (keyT h p).length ≤ 500 := by
  have h1 := keyQ_len (keyParts p.data.toList)
  have h2 := keyParts_len p.data.toList
  have h3 := keyParts_sum p.data.toList
  have h4 : (lowS h).data.toList.length = (lowS h).size := by simp
  rw [hsize_list] at h2 h3
  rw [keyT, List.length_append, List.length_append, h4, lowS_size, List.length_take, hsize_list]
  omega
theorem names_zero {ns : List ByteArray} (h : namesC ns = 0) : ns.length ≤ 4 ∧ wordsA ns = true := by
  by_cases c : 4 < ns.length
  · rw [namesC_many c] at h; omega
  · cases hw : wordsA ns
    · rw [namesC_bad c hw] at h; omega
    · exact ⟨by omega, rfl⟩
theorem addN_len {l : List Hdr} (h0 : headsC l = 0) {o : List UInt8} {x : ByteArray} (hx : wordS x = true) : (addN l o x).length ≤ o.length + 4200 := by
  have h1 := hword_max hx
  obtain ⟨h20, hz⟩ := heads_sizes h0
  have h2 := hjoinL_len (valsOf (lowS x) l) (valsOf_mem hz)
  have h3 := valsOf_len (lowS x) l
  have h4 : (lowS x).data.toList.length = (lowS x).size := by simp
  rw [lowS_size] at h4
  simp only [addN, List.length_append, List.length_cons, List.length_nil, h4]
  omega
theorem hjoin_len {l : List Hdr} (h0 : headsC l = 0) (x : ByteArray) : (hjoinL (valsOf x l)).length ≤ 4040 := by
  obtain ⟨h20, hz⟩ := heads_sizes h0
  have h2 := hjoinL_len (valsOf x l) (valsOf_mem hz)
  have h3 := valsOf_len x l
  omega
set_option maxRecDepth 100000 in
set_option maxHeartbeats 4000000 in
theorem l5Names_any (w : World) (a : Option Addr) (cap : Nat) (ns : List ByteArray) (hn : ns.length ≤ 1048576) (hi : TIn w a ns) :
    Calls Tryz.prog 62 #[.slice a ns.length cap] w fun e w' => e = .returned (.int .i64 (namesC ns)) ∧ Below w.heap.size w w' := by
  have HI : Hid (TIn w a ns) := hi
  clear hi
  by_cases h4 : 4 < ns.length
  · have HE : Hid (namesC ns = 2) := namesC_many h4
    generalize ns.length = n at *
    have g : (4 : Int) < n := by omega
    go_enter Tryz.func62, Tryz.ntmps62
    go_wp2_with fail
    go_ret
    exact ⟨ret_int HE.out.symm, Below.refl _ _⟩
  have HBAD : Hid (wordsA ns = false → namesC ns = 5) := namesC_bad h4
  have HOK : Hid (wordsA ns = true → namesC ns = 0) := namesC_ok h4
  generalize hnn : ns.length = n at *
  have HN : Hid (ns.length = n) := hnn
  clear hnn
  have g : ¬ (4 : Int) < n := by omega
  go_enter Tryz.func62, Tryz.ntmps62
  go_wp2_with fail
  go_loopw [3] (fun i wr => ∃ k : Nat, k ≤ n ∧ i = .int .i64 k ∧ (∀ (j : Nat) x, j < k → ns[j]? = some x → wordS x = true) ∧ Below w.heap.size w wr) (fun i _ => n - (intOf i).toNat)
  case atStart => exact ⟨0, Nat.zero_le _, rfl, fun j x hj _ => absurd hj (by omega), Below.refl _ _⟩
  case round =>
    obtain ⟨k, hk, rfl, hw, hb⟩ := hrel
    have HW : Hid (∀ (j : Nat) x, j < k → ns[j]? = some x → wordS x = true) := hw
    clear hw
    by_cases hlt : k < n
    · obtain ⟨x, hx⟩ : ∃ r, ns[k]? = some r := ⟨ns[k]'(by have := HN.out; omega), List.getElem?_eq_getElem _⟩
      rcases HI.out with h | ⟨b, off, rfl, hat⟩
      · subst h; simp at hx
      have p1 := (hat.keep hb) k x hx
      have HX : Hid (ns[k]? = some x) := hx
      have C := specIsWord_any x wr
      have gk : (k : Int) < n := by omega
      clear hx hat
      by_cases hw : wordS x = true
      · rw [hw] at C
        have HWX : Hid (wordS x = true) := hw
        clear hw
        go_wp2_with fail
        refine C.mono ?_
        rintro e w2 ⟨rfl, rfl⟩
        go_wp2_with fail
        go_roundw
        case rel =>
          refine ⟨k + 1, by omega, by go_num, fun j y hj hy => ?_, hb⟩
          by_cases e : j = k
          · subst e
            rw [HX.out] at hy
            obtain rfl := Option.some.inj hy
            exact HWX.out
          · exact HW.out j y (by omega) hy
        case measure => simp [intOf]; omega
      · have hwf : wordS x = false := by simpa using hw
        rw [hwf] at C
        have HE : Hid (namesC ns = 5) := HBAD.out (wordsA_not HX.out hwf)
        clear hw hwf
        go_wp2_with fail
        refine C.mono ?_
        rintro e w2 ⟨rfl, rfl⟩
        go_wp2_with fail
        go_ret
        exact ⟨ret_int HE.out.symm, hb⟩
    · have HE : Hid (namesC ns = 0) := HOK.out (wordsA_of fun j x hx => HW.out j x (by have := (List.getElem?_eq_some_iff.1 hx).1; have := HN.out; omega) hx)
      go_wp2_with fail
      go_ret
      exact ⟨ret_int HE.out.symm, hb⟩
set_option maxRecDepth 100000 in
set_option maxHeartbeats 8000000 in
theorem l5Full_any (w : World) (B : Nat) (m h p : ByteArray) (a : Option Addr) (cap : Nat) (l : List Hdr) (c : Option Addr) (nc : Nat) (ns : List ByteArray) (F : Four w B (.string m) (.string h) (.string p) (.slice a l.length cap)) (hh : h.size ≤ 60) (hp : p.size ≤ 100) (h0 : headsC l = 0) (hi : HdsIn w a l) (hn : ns.length ≤ 4) (hw : wordsA ns = true) (ht : TIn w c ns) :
    Calls Tryz.prog 63 #[.pointer (some ⟨B, 0, none⟩), .slice c ns.length nc] w fun e w' => e = .returned (.string (hmk (fullL h p l ns))) ∧ Below w.heap.size w w' := by
  have C := l5Key_any w B m h p _ F hh hp
  obtain ⟨h20, hz⟩ := heads_sizes h0
  have HF : Hid (∀ X, Below w.heap.size w X → X.cell? ⟨B, 3, none⟩ = some (.slice a l.length cap)) := fun X hb => (F.keep hb).c3
  have HJ : Hid (∀ X (x : ByteArray), Below w.heap.size w X → wordS x = true → Calls Tryz.prog 37 #[.slice a l.length cap, .string x] X fun e w' => e = .returned (.tuple #[.string ⟨(hjoinL (valsOf (lowS x) l)).toArray⟩, .bool (anyV (valsOf (lowS x) l))]) ∧ Below X.heap.size X w') := fun X x hb hx => l4Join_any X a cap l x h20 hz (hword_max hx) (hi.keep hb)
  have HK : Hid ((keyT h p).length ≤ 500) := keyT_len hh hp
  have HL : Hid (headsC l = 0) := h0
  have HI : Hid (TIn w c ns) := ht
  have HW : Hid (wordsA ns = true) := hw
  have hs0 : (hmk (keyT h p)).size ≤ 500 := by rw [hmk_size]; exact keyT_len hh hp
  have HE0 : Hid ((hmk (keyT h p)).data.toList = fullL h p l (ns.take 0)) := by show _ = _; rw [hmk_list]; rfl
  clear hi F hz h20 ht hw h0 hh hp
  generalize hmk (keyT h p) = k0 at *
  generalize hnn : ns.length = n at *
  have HN : Hid (ns.length = n) := hnn
  clear hnn
  generalize l.length = ln at *
  go_enter Tryz.func63, Tryz.ntmps63
  go_wp2_with fail
  refine C.mono ?_
  rintro e w1 ⟨rfl, hb1⟩
  have HB1 : Hid (Below w.heap.size w w1) := hb1
  clear C hb1
  go_wp2_with fail
  go_loopw [5, 6] (fun v i wr => ∃ (k : Nat) (o : ByteArray), k ≤ n ∧ i = .int .i64 k ∧ v = .string o ∧ o.data.toList = fullL h p l (ns.take k) ∧ o.size ≤ 500 + k * 4200 ∧ Below w.heap.size w wr) (fun _ i _ => n - (intOf i).toNat)
  case atStart => exact ⟨0, k0, Nat.zero_le _, rfl, rfl, HE0.out, by omega, HB1.out⟩
  case round =>
    obtain ⟨k, o, hk, rfl, rfl, ho, hos, hb⟩ := hrel
    have HO : Hid (o.data.toList = fullL h p l (ns.take k)) := ho
    have HBR : Hid (Below w.heap.size w wr) := hb
    have hos2 : o.size ≤ 20000 := by omega
    clear ho HE0 HB1 hs0
    by_cases hlt : k < n
    · obtain ⟨x, hx⟩ : ∃ r, ns[k]? = some r := ⟨ns[k]'(by have := HN.out; omega), List.getElem?_eq_getElem _⟩
      have hwx := wordsA_mem HW.out hx
      have HT : Hid (fullL h p l (ns.take (k + 1)) = addN l (fullL h p l (ns.take k)) x) := fullL_take hx
      rcases HI.out with hh | ⟨b, off, rfl, hat⟩
      · subst hh; simp at hx
      have p1 := (hat.keep hb) k x hx
      have c3 := HF.out wr hb
      have x1 := cell_regrown p1
      have x3 := cell_regrown c3
      have hxm := hword_max hwx
      have hlm := HL.out
      have hjl := hjoin_len HL.out (lowS x)
      obtain ⟨jt, hjt⟩ : ∃ j : ByteArray, j = ⟨(hjoinL (valsOf (lowS x) l)).toArray⟩ := ⟨_, rfl⟩
      have sjt : jt.size ≤ 4040 := by rw [hjt]; show (hjoinL (valsOf (lowS x) l)).toArray.size ≤ 4040; rw [List.size_toArray]; exact hjl
      have cJ : ∀ d os, Calls Tryz.prog 37 #[.slice a ln cap, .string x] (grow (redrawn wr d) os) fun e w'' => e = .returned (.tuple #[.string jt, .bool (anyV (valsOf (lowS x) l))]) ∧ ∃ q : Regrown, w'' = grow (redrawn wr q.d) q.os := fun d os => by
        have h1 := HJ.out (grow (redrawn wr d) os) x (HBR.out.trans ((below_regrown wr d os).mono HBR.out.size)) hwx
        rw [← hjt] at h1
        exact Calls.regrown_of h1
      have HLW : Hid (∀ X, Calls Tryz.prog 99 #[.string x] X fun e w' => e = .returned (.string (lowS x)) ∧ Below X.heap.size X w') := fun X => l1Lower_any x X (by omega)
      have slw : (lowS x).size ≤ 64 := by rw [lowS_size]; exact hxm
      obtain ⟨lw, hlw⟩ : ∃ lw, lw = lowS x := ⟨_, rfl⟩
      have lit1 : (⟨#[32]⟩ : ByteArray).size = 1 := rfl
      have lit2 : (⟨#[61]⟩ : ByteArray).size = 1 := rfl
      obtain ⟨y1, hy1⟩ : ∃ y : ByteArray, y = o ++ ⟨#[32]⟩ := ⟨_, rfl⟩
      have s1 : y1.size = o.size + 1 := by rw [hy1, ByteArray.size_append, lit1]
      obtain ⟨y2, hy2⟩ : ∃ y : ByteArray, y = y1 ++ lw := ⟨_, rfl⟩
      have s2 : y2.size = y1.size + lw.size := by rw [hy2, ByteArray.size_append]
      obtain ⟨y3, hy3⟩ : ∃ y : ByteArray, y = y2 ++ ⟨#[61]⟩ := ⟨_, rfl⟩
      have s3 : y3.size = y2.size + 1 := by rw [hy3, ByteArray.size_append, lit2]
      obtain ⟨y4, hy4⟩ : ∃ y : ByteArray, y = y3 ++ jt := ⟨_, rfl⟩
      have s4 : y4.size = y3.size + jt.size := by rw [hy4, ByteArray.size_append]
      rw [← hlw] at slw HLW
      have a1 : ∀ X, (Op.stringOp .add o ⟨#[32]⟩).run Tryz.prog X = .ok (.string y1) X := fun X => by rw [hy1]; exact run_string_add_sum X _ _ (by omega)
      have a2 : ∀ X, (Op.stringOp .add y1 lw).run Tryz.prog X = .ok (.string y2) X := fun X => by rw [hy2]; exact run_string_add_sum X _ _ (by omega)
      have a3 : ∀ X, (Op.stringOp .add y2 ⟨#[61]⟩).run Tryz.prog X = .ok (.string y3) X := fun X => by rw [hy3]; exact run_string_add_sum X _ _ (by omega)
      have a4 : ∀ X, (Op.stringOp .add y3 jt).run Tryz.prog X = .ok (.string y4) X := fun X => by rw [hy4]; exact run_string_add_sum X _ _ (by omega)
      have HR : Hid (y4.data.toList = fullL h p l (ns.take (k + 1)) ∧ y4.size ≤ 500 + (k + 1) * 4200) := by
        refine ⟨?_, by omega⟩
        rw [HT.out, addN, hy4, hy3, hy2, hy1, happ_list, happ_list, happ_list, happ_list, HO.out, hjt, hlw]
      have g0 : (0 : Int) ≤ k := by omega
      have gk : (k : Int) < n := by omega
      have HCE : Hid (∀ X, Below wr.heap.size wr X → X.cell? ⟨b, off + k, none⟩ = some (.string x)) := fun X hb => by rw [hb.cell (p := ⟨b, off + k, none⟩) (block_lt_of_cell p1)]; exact p1
      clear hx hat HI p1 c3 hjt hlw lit1 lit2 hy1 hy2 hy3 hy4 s1 s2 s3 s4 HT hwx hjl hlm HJ hb
      generalize anyV (valsOf (lowS x) l) = av at *
      go_wp2_with fail
      refine wp_region_quiet_below (by kernel_rfl) (by kernel_rfl) ?_
      repeat (go_big_quiet_step ((go_at_call 37; exact cJ _ _)))
      refine wpQuiet_nil ?_
      intro w2 hw2
      have hb2 : Below wr.heap.size wr w2 := by
        obtain ⟨⟨d, os⟩, rfl⟩ := hw2
        exact below_regrown wr d os
      have HB2 : Hid (Below w.heap.size w w2) := HBR.out.trans (hb2.mono HBR.out.size)
      have px := HCE.out w2 hb2
      have C3 := HLW.out w2
      clear x1 x3 cJ hw2 hb2 HCE HLW HBR
      go_wp2_with fail
      refine C3.mono ?_
      rintro e w3 ⟨rfl, hb3⟩
      have HB3 : Hid (Below w.heap.size w w3) := HB2.out.trans (hb3.mono HB2.out.size)
      clear C3 hb3 px
      go_wp2_with fail
      go_roundw
      case rel => exact ⟨k + 1, y4, by omega, by go_num, rfl, HR.out.1, HR.out.2, HB3.out⟩
      case measure => simp [intOf]; omega
    · have ek : ns.take k = ns := List.take_of_length_le (by have := HN.out; omega)
      have HE : Hid (o = hmk (fullL h p l ns)) := by
        refine hof_list ?_
        rw [HO.out, ek]
      clear ek HO
      go_wp2_with fail
      go_ret
      exact ⟨congrArg (fun s => Ending.returned (.string s)) HE.out, hb⟩
set_option maxRecDepth 100000 in
set_option maxHeartbeats 4000000 in
theorem specFull_any (w : World) (m h p : ByteArray) (a : Option Addr) (cap : Nat) (l : List Hdr) (c : Option Addr) (nc : Nat) (ns : List ByteArray) (hl : l.length ≤ 1048576) (hn : ns.length ≤ 1048576) (hi : HdsIn w a l) (ht : TIn w c ns) :
    Calls Tryz.prog 26 #[.agg #[.string m, .string h, .string p, .slice a l.length cap], .slice c ns.length nc] w fun e w' => e = .returned (.agg #[.int .i64 (fullC m h p l ns), .string (fullR m h p l ns)]) ∧ Below w.heap.size w w' := by
  obtain ⟨W, hW⟩ : ∃ W, W = (w.alloc (.cells #[.string m, .string h, .string p, .slice a l.length cap] 26)).alloc (.cells #[.int .i64 0, .string ⟨#[]⟩] 50) := ⟨_, rfl⟩
  have HW : Hid (W = (w.alloc (.cells #[.string m, .string h, .string p, .slice a l.length cap] 26)).alloc (.cells #[.int .i64 0, .string ⟨#[]⟩] 50)) := hW
  have bW : Below w.heap.size w W := by rw [hW]; exact ((Below.refl _ _).alloc (Nat.le_refl _) _).alloc (by simp) _
  have f0 : Four W w.heap.size (.string m) (.string h) (.string p) (.slice a l.length cap) := by rw [hW]; exact (Four.new _ _ _ _ _ _).keep ((Below.refl _ _).alloc (Nat.le_refl _) _)
  have t0 : Two W (w.heap.size + 1) (.int .i64 0) (.string ⟨#[]⟩) := by
    rw [hW]
    have := Two.new (w.alloc (.cells #[.string m, .string h, .string p, .slice a l.length cap] 26)) (.int .i64 0) (.string ⟨#[]⟩) 50
    simpa using this
  have C := specReq_any W m h p a cap l hl (hi.keep bW)
  have K0 : Hid (Below w.heap.size w W ∧ Four W w.heap.size (.string m) (.string h) (.string p) (.slice a l.length cap) ∧ Two W (w.heap.size + 1) (.int .i64 0) (.string ⟨#[]⟩)) := ⟨bW, f0, t0⟩
  have HI : Hid (∀ X, Below w.heap.size w X → HdsIn X a l ∧ TIn X c ns) := fun X hb => ⟨hi.keep hb, ht.keep hb⟩
  have HCC : Hid ((¬ reqC m h p l = 0 → fullC m h p l ns = reqC m h p l ∧ fullR m h p l ns = ⟨#[]⟩) ∧ (reqC m h p l = 0 → ¬ namesC ns = 0 → fullC m h p l ns = namesC ns ∧ fullR m h p l ns = ⟨#[]⟩) ∧ (reqC m h p l = 0 → namesC ns = 0 → fullC m h p l ns = 0 ∧ fullR m h p l ns = hmk (fullL h p l ns)) ∧ (reqC m h p l = 0 → h.size ≤ 60 ∧ p.size ≤ 100 ∧ headsC l = 0)) := ⟨fun c0 => fullC_bad c0, fun c0 c1 => fullC_names c0 c1, fun c0 c1 => fullC_ok c0 c1, fun c0 => ⟨(method_size (reqC_zero c0).1).2.1, (method_size (reqC_zero c0).1).2.2, (reqC_zero c0).2.1⟩⟩
  clear hW bW f0 t0 hi ht
  generalize fullC m h p l ns = fc at *
  generalize fullR m h p l ns = fr at *
  generalize reqC m h p l = cc at *
  have hc3 := K0.out.2.1.c3
  rw [HW.out] at hc3
  go_enter Tryz.func26, Tryz.ntmps26
  go_wp2_with fail
  rw [← HW.out]
  refine C.mono ?_
  rintro e w1 ⟨rfl, hb1⟩
  have K1 : Hid (Below w.heap.size w w1 ∧ Four w1 w.heap.size (.string m) (.string h) (.string p) (.slice a l.length cap) ∧ Two w1 (w.heap.size + 1) (.int .i64 0) (.string ⟨#[]⟩)) := ⟨K0.out.1.trans (hb1.mono K0.out.1.size), K0.out.2.1.keep hb1, K0.out.2.2.keep hb1⟩
  clear C hb1 K0 HW hc3
  by_cases c0 : cc = 0
  · subst c0
    obtain ⟨z2, z3, y2⟩ := HCC.out.2.2.2 rfl
    have C4 := l5Names_any w1 c nc ns hn (HI.out w1 K1.out.1).2
    have HFL : Hid (namesC ns = 0 → ∀ X, Below w.heap.size w X → Four X w.heap.size (.string m) (.string h) (.string p) (.slice a l.length cap) → Calls Tryz.prog 63 #[.pointer (some ⟨w.heap.size, 0, none⟩), .slice c ns.length nc] X fun e w' => e = .returned (.string (hmk (fullL h p l ns))) ∧ Below X.heap.size X w') := fun hz X hb hF => l5Full_any X w.heap.size m h p a cap l c nc ns hF z2 z3 y2 (HI.out X hb).1 (names_zero hz).1 (names_zero hz).2 (HI.out X hb).2
    have HO : Hid (namesC ns = 0 → fc = 0 ∧ fr = hmk (fullL h p l ns)) := HCC.out.2.2.1 rfl
    have HB : Hid (¬ namesC ns = 0 → fc = namesC ns ∧ fr = ⟨#[]⟩) := HCC.out.2.1 rfl
    clear y2 z2 z3 HI hl hn HCC
    generalize hmk (fullL h p l ns) = ft at *
    generalize namesC ns = nm at *
    generalize ns.length = nn at *
    go_wp2_with fail
    refine C4.mono ?_
    rintro e w2 ⟨rfl, hb2⟩
    have K2 : Hid (Below w.heap.size w w2 ∧ Four w2 w.heap.size (.string m) (.string h) (.string p) (.slice a l.length cap) ∧ Two w2 (w.heap.size + 1) (.int .i64 0) (.string ⟨#[]⟩)) := ⟨K1.out.1.trans (hb2.mono K1.out.1.size), K1.out.2.1.keep hb2, K1.out.2.2.keep hb2⟩
    clear C4 hb2 K1
    by_cases d0 : nm = 0
    · have HOO := HO.out d0
      have HR : Hid (fc = 0 ∧ fr = ft) := HOO
      have C5 := HFL.out d0 w2 K2.out.1 K2.out.2.1
      subst d0
      clear HO HB HFL HOO
      go_wp2_with fail
      refine C5.mono ?_
      rintro e w3 ⟨rfl, hb3⟩
      have K3 : Hid (Below w.heap.size w w3 ∧ Two w3 (w.heap.size + 1) (.int .i64 0) (.string ⟨#[]⟩)) := ⟨K2.out.1.trans (hb3.mono K2.out.1.size), K2.out.2.2.keep hb3⟩
      clear C5 hb3 K2
      obtain ⟨r0, r1, rf, _⟩ := K3.out.2
      have rf0 := rf 0
      have rf1 := rf 1
      clear rf
      go_wp2_with fail
      have T2 := two_put (v0 := .int .i64 0) (v1 := .string ft) K3.out.2
      exact bodyPost_ret (v := .agg #[.int .i64 0, .string ft]) (by simp [results, Tryz.results26, go_sem, T2.c0, T2.c1]) rfl ⟨by rw [HR.out.1, HR.out.2], (K3.out.1.setCell (by simp) _).setCell (by simp) _⟩
    · have HR : Hid (fc = nm ∧ fr = ⟨#[]⟩) := HB.out d0
      clear HO HB HFL
      obtain ⟨r0, r1, rf, _⟩ := K2.out.2.2
      have rf0 := rf 0
      have rf1 := rf 1
      clear rf
      go_wp2_with fail
      have T2 := two_put (v0 := .int .i64 nm) (v1 := .string ⟨#[]⟩) K2.out.2.2
      exact bodyPost_ret (v := .agg #[.int .i64 nm, .string ⟨#[]⟩]) (by simp [results, Tryz.results26, go_sem, T2.c0, T2.c1]) rfl ⟨by rw [HR.out.1, HR.out.2], (K2.out.1.setCell (by simp) _).setCell (by simp) _⟩
  · have HR : Hid (fc = cc ∧ fr = ⟨#[]⟩) := HCC.out.1 c0
    obtain ⟨r0, r1, rf, _⟩ := K1.out.2.2
    have rf0 := rf 0
    have rf1 := rf 1
    clear rf HI HCC
    generalize ns.length = nn at *
    go_wp2_with fail
    have T2 := two_put (v0 := .int .i64 cc) (v1 := .string ⟨#[]⟩) K1.out.2.2
    exact bodyPost_ret (v := .agg #[.int .i64 cc, .string ⟨#[]⟩]) (by simp [results, Tryz.results26, go_sem, T2.c0, T2.c1]) rfl ⟨by rw [HR.out.1, HR.out.2], (K1.out.1.setCell (by simp) _).setCell (by simp) _⟩
end Go.Proofs.YtonnggelpjjmmaaGreatDoor
/-
  Head lines that were packed are read back, plainly. No Go in sight.
-/
namespace Go.Proofs.YtonnggelpjjmmaaGreatDoor
theorem trim_space {v : List UInt8} (h : Lib.trimS v [32, 9] = v) : Lib.trimS (32 :: v) [32, 9] = v := by
  unfold Lib.trimS Lib.trimLeftS Lib.trimRightS at *
  have p32 : ([32, 9] : List UInt8).contains 32 = true := by decide
  generalize hp : (fun x => ([32, 9] : List UInt8).contains x) = p at *
  have q32 : p 32 = true := by rw [← hp]; exact p32
  have l1 : ((v.reverse.dropWhile p).reverse.dropWhile p).length ≤ (v.reverse.dropWhile p).reverse.length := (List.dropWhile_sublist p).length_le
  have l2 : (v.reverse.dropWhile p).length ≤ v.reverse.length := (List.dropWhile_sublist p).length_le
  rw [h] at l1
  rw [List.length_reverse] at l1
  have e1 : v.reverse.dropWhile p = v.reverse := (List.dropWhile_sublist p).eq_of_length (by rw [List.length_reverse] at l2 ⊢; omega)
  rw [e1, List.reverse_reverse] at h
  cases hv : v.reverse with
  | nil =>
    have : v = [] := by simpa using hv
    subst this
    simp [q32]
  | cons x t =>
    rw [hv] at e1
    have hx : p x = false := by
      cases hpx : p x with
      | false => rfl
      | true =>
        rw [List.dropWhile_cons_of_pos hpx] at e1
        have := (List.dropWhile_sublist p (l := t)).length_le
        rw [e1, List.length_cons] at this
        omega
    have e2 : (32 :: v).reverse.dropWhile p = (32 :: v).reverse := by
      rw [List.reverse_cons, hv, List.cons_append, List.dropWhile_cons_of_neg (by rw [hx]; decide)]
    rw [e2, List.reverse_reverse, List.dropWhile_cons_of_pos q32]
    exact h
theorem crAt_line : ∀ (b r : List UInt8), (∀ c ∈ b, c ≠ 13) → crAt (b ++ 13 :: 10 :: r) = b.length
  | [], r, _ => by simp [crAt]
  | c :: b, r, h => by
    have ih := crAt_line b r (fun c hc => h c (by simp [hc]))
    obtain ⟨d, t, e⟩ : ∃ d t, b ++ 13 :: 10 :: r = d :: t := by cases b <;> simp
    rw [List.cons_append, e, crAt, if_neg (fun x => h c (by simp) x.1), ← e, ih]
    simp only [List.length_cons]; omega
theorem clAt_line : ∀ (n t : List UInt8), (∀ c ∈ n, c ≠ 58) → clAt (n ++ 58 :: t) = n.length
  | [], t, _ => by simp [clAt]
  | c :: n, t, h => by
    have ih := clAt_line n t (fun c hc => h c (by simp [hc]))
    rw [List.cons_append, clAt, if_neg (h c (by simp)), ih]
    simp only [List.length_cons]; omega
theorem word_mem {s : ByteArray} (h : wordS s = true) : ∀ c ∈ s.data.toList, c ≠ 58 ∧ c ≠ 13 := by
  have h2 : allW s.data.toList = true := by
    simp only [wordS, Bool.and_eq_true] at h
    exact h.2
  intro c hc
  have := List.all_eq_true.1 h2 c hc
  refine ⟨fun e => ?_, fun e => ?_⟩ <;> subst e <;> revert this <;> decide +kernel
theorem plain_mem {l : List UInt8} (h : plainL l = true) : ∀ c ∈ l, c ≠ 13 := by
  intro c hc e
  have := List.all_eq_true.1 h c hc
  subst e
  revert this
  decide
theorem lineOf_back {r : Hdr} (h : faultH r = 0) : lineOf (r.name.data.toList ++ 58 :: 32 :: r.value.data.toList) = r := by
  obtain ⟨hw, _, _, ht⟩ := faultH_zero h
  have hc := clAt_line r.name.data.toList (32 :: r.value.data.toList) (fun c hc => (word_mem hw c hc).1)
  unfold lineOf
  rw [hc, List.take_left]
  have e2 : (r.name.data.toList ++ 58 :: 32 :: r.value.data.toList).drop (r.name.data.toList.length + 1) = 32 :: r.value.data.toList := by
    rw [← List.drop_drop, List.drop_left]; rfl
  rw [e2]
  obtain ⟨n, v⟩ := r
  simp only at *
  have hn : hmk n.data.toList = n := (hof_list rfl).symm
  have hvv : trimT (hmk (32 :: v.data.toList)) = v := by
    have hv : Lib.trimS v.data.toList [32, 9] = v.data.toList := by
      have := congrArg (fun b : ByteArray => b.data.toList) ht
      simpa [trimT] using this
    unfold trimT
    rw [hmk_list, trim_space hv]
  rw [hn, hvv]
theorem read_pack : ∀ l : List Hdr, (∀ r ∈ l, faultH r = 0) → readT (packL l) = some l
  | [], _ => readT_nil
  | r :: l, h => by
    have ih := read_pack l (fun q hq => h q (by simp [hq]))
    have h0 := h r (by simp)
    obtain ⟨hw, hz, hp, ht⟩ := faultH_zero h0
    have hb := lineOf_back h0
    have hcl := clAt_line r.name.data.toList (32 :: r.value.data.toList) (fun c hc => (word_mem hw c hc).1)
    have e : packL (r :: l) = (r.name.data.toList ++ 58 :: 32 :: r.value.data.toList) ++ 13 :: 10 :: packL l := by simp [packL, lineL]
    have h13 : ∀ c ∈ r.name.data.toList ++ 58 :: 32 :: r.value.data.toList, c ≠ 13 := by
      intro c hc
      simp only [List.mem_append, List.mem_cons] at hc
      rcases hc with hc | rfl | rfl | hc
      · exact (word_mem hw c hc).2
      · decide
      · decide
      · exact plain_mem hp c hc
    have hlt : clAt (r.name.data.toList ++ 58 :: 32 :: r.value.data.toList) < (r.name.data.toList ++ 58 :: 32 :: r.value.data.toList).length := by rw [hcl]; simp only [List.length_append, List.length_cons]; omega
    rw [e]
    generalize r.name.data.toList ++ 58 :: 32 :: r.value.data.toList = b at *
    have hc := crAt_line b (packL l) h13
    have t1 : (b ++ 13 :: 10 :: packL l).take b.length = b := List.take_left
    have t2 : (b ++ 13 :: 10 :: packL l).drop (b.length + 2) = packL l := by rw [← List.drop_drop, List.drop_left]; rfl
    rw [readT_take (by rw [hc]; simp only [List.length_append, List.length_cons]; omega) (by rw [hc, t1]; exact hlt), hc, t1, t2, ih, hb]
    rfl
theorem packL_len4 : ∀ l : List Hdr, (∀ r ∈ l, faultH r = 0) → (packL l).length ≤ l.length * 268
  | [], _ => by simp [packL]
  | r :: l, h => by
    have ih := packL_len4 l (fun q hq => h q (by simp [hq]))
    have := lineL_len (h r (by simp))
    have e : packL (r :: l) = lineL r ++ packL l := by simp [packL]
    rw [e, List.length_append, List.length_cons]
    omega
theorem heads_mem {l : List Hdr} (h : headsC l = 0) : l.length ≤ 20 ∧ ∀ r ∈ l, faultH r = 0 := by
  obtain ⟨h1, h2⟩ := headsC_zero h
  refine ⟨h1, fun r hr => ?_⟩
  obtain ⟨i, hi⟩ := List.mem_iff_getElem?.1 hr
  exact h2 i r hi
theorem heads_of {l : List Hdr} (h1 : l.length ≤ 20) (h2 : ∀ r ∈ l, faultH r = 0) : headsC l = 0 := by rw [headsC_few (by omega)]; exact faultHL_of l h2
theorem pack_read {l : List Hdr} (h : headsC l = 0) : readHC (packT l) = 0 ∧ readHL (packT l) = l := by
  obtain ⟨h1, h2⟩ := heads_mem h
  have hl := packL_len4 l h2
  have hr := read_pack l h2
  rw [packT_ok h]
  exact readH_ok (by show ¬ 6000 < (packL l).toArray.size; rw [List.size_toArray]; omega) hr h
theorem read_heads {s : ByteArray} (h : readHC s = 0) : headsC (readHL s) = 0 := by
  by_cases c : 6000 < s.size
  · rw [(readH_long c).1] at h; omega
  · cases hr : readT s.data.toList with
    | none => rw [(readH_bad c hr).1] at h; omega
    | some L =>
      by_cases hL : headsC L = 0
      · rw [(readH_ok c hr hL).2]; exact hL
      · rw [(readH_fault c hr hL).1] at h; exact absurd h hL
end Go.Proofs.YtonnggelpjjmmaaGreatDoor
/-
  Plain mathematics of decimal digits that stay at their greatest: no Go in sight.
-/
namespace Go.Proofs.YtonnggelpjjmmaaGreatDoor
def digB (c : UInt8) : Bool := decide (48 ≤ (c.toNat : Int)) && decide ((c.toNat : Int) ≤ 57)
def accD (n : Int) (c : UInt8) : Int := if n * 10 + ((c.toNat : Int) - 48) < 2147483648 then n * 10 + ((c.toNat : Int) - 48) else 2147483648
def valD (l : List UInt8) : Int := l.foldl accD 0
def allD (l : List UInt8) : Bool := l.all digB
theorem accD_bd (n : Int) (c : UInt8) (h0 : 0 ≤ n) (hc : digB c = true) : 0 ≤ accD n c ∧ accD n c ≤ 2147483648 := by
  simp [digB] at hc
  unfold accD
  split <;> omega
theorem foldD_bd (l : List UInt8) : ∀ n : Int, 0 ≤ n → n ≤ 2147483648 → l.all digB = true → 0 ≤ l.foldl accD n ∧ l.foldl accD n ≤ 2147483648 := by
  induction l with
  | nil => intro n h0 h1 _; exact ⟨h0, h1⟩
  | cons c l ih =>
    intro n h0 h1 h
    simp only [List.all_cons, Bool.and_eq_true] at h
    have := accD_bd n c h0 h.1
    exact ih _ this.1 this.2 h.2
theorem valD_bd (l : List UInt8) (h : allD l = true) : 0 ≤ valD l ∧ valD l ≤ 2147483648 := foldD_bd l 0 (by omega) (by omega) h
theorem valD_snoc (l : List UInt8) (c : UInt8) : valD (l ++ [c]) = accD (valD l) c := by simp [valD]
theorem allD_snoc (l : List UInt8) (c : UInt8) : allD (l ++ [c]) = (allD l && digB c) := by simp [allD]
theorem allD_of_take (l : List UInt8) (k : Nat) (h : allD (l.take k) = false) : allD l = false := by
  have e := List.take_append_drop k l
  rw [← e]
  simp only [allD] at h ⊢
  rw [List.all_append, h, Bool.false_and]
/-- Digits as a number; -1 where they are none. -/
def okD (s : ByteArray) : Bool := decide (1 ≤ s.size) && decide (s.size ≤ 64) && allD s.data.toList
def numD (s : ByteArray) : Int := if okD s = true then valD s.data.toList else -1
theorem okD_short (s : ByteArray) (h : s.size < 1) : okD s = false := by simp [okD]; omega
theorem okD_long (s : ByteArray) (h : 64 < s.size) : okD s = false := by simp [okD]; omega
theorem okD_not (s : ByteArray) (k : Nat) (h : k < s.size) (hd : digB s[k] = false) : okD s = false := by
  have : allD s.data.toList = false := by
    refine allD_of_take _ (k + 1) ?_
    rw [take_snoc s k h, allD_snoc, hd, Bool.and_false]
  simp [okD, this]
theorem okD_yes (s : ByteArray) (h1 : 1 ≤ s.size) (h2 : s.size ≤ 64) (h : allD s.data.toList = true) : okD s = true := by simp [okD, h, h1, h2]
theorem numD_no (s : ByteArray) (h : okD s = false) : numD s = -1 := by simp [numD, h]
theorem numD_yes (s : ByteArray) (h : okD s = true) : numD s = valD s.data.toList := by simp [numD, h]
theorem okD_bd (s : ByteArray) (h : okD s = true) : 0 ≤ valD s.data.toList ∧ valD s.data.toList ≤ 2147483648 := by
  refine valD_bd _ ?_
  simp [okD] at h
  exact h.2
end Go.Proofs.YtonnggelpjjmmaaGreatDoor
/-
  Requests and responses read from bytes, plainly. No Go in sight.
-/
namespace Go.Proofs.YtonnggelpjjmmaaGreatDoor
/-- A first line and what stands behind it, up to the last 13 and 10. -/
def okRest (r : List UInt8) : Bool := decide (r = [13, 10]) || ([13, 10, 13, 10] : List UInt8).isSuffixOf r
def firstO (l : List UInt8) : Option (List UInt8 × List UInt8) :=
  if crAt l < l.length ∧ okRest (l.drop (crAt l + 2)) = true then some (l.take (crAt l), (l.drop (crAt l + 2)).take (l.length - (crAt l + 2) - 2)) else none
theorem firstO_no {l : List UInt8} (h : ¬ crAt l < l.length) : firstO l = none := by rw [firstO, if_neg (fun x => h x.1)]
theorem firstO_bad {l : List UInt8} (h : okRest (l.drop (crAt l + 2)) = false) : firstO l = none := by rw [firstO, if_neg (fun x => by rw [h] at x; exact absurd x.2 (by decide))]
theorem firstO_yes {l : List UInt8} (h : crAt l < l.length) (h2 : okRest (l.drop (crAt l + 2)) = true) : firstO l = some (l.take (crAt l), (l.drop (crAt l + 2)).take (l.length - (crAt l + 2) - 2)) := by rw [firstO, if_pos ⟨h, h2⟩]
theorem okRest_len {r : List UInt8} (h : okRest r = true) : 2 ≤ r.length := by
  simp only [okRest, Bool.or_eq_true, decide_eq_true_eq] at h
  rcases h with rfl | h
  · simp
  · have := (List.isSuffixOf_iff_suffix.1 h).length_le
    simp only [List.length_cons, List.length_nil] at this; omega
theorem okRest_suffix {r : List UInt8} (h : okRest r = true) : Lib.hasSuffix r [13, 10] = true := by
  unfold Lib.hasSuffix
  simp only [okRest, Bool.or_eq_true, decide_eq_true_eq] at h
  rcases h with rfl | h
  · rfl
  · rw [List.isSuffixOf_iff_suffix] at h ⊢
    exact List.IsSuffix.trans ⟨[13, 10], rfl⟩ h
structure Rq where
  m : ByteArray
  h : ByteArray
  p : ByteArray
  l : List Hdr
def rq0 : Rq := ⟨⟨#[]⟩, ⟨#[]⟩, ⟨#[]⟩, []⟩
def rqC (q : Rq) : Int := reqC q.m q.h q.p q.l
theorem vals_drop_len (x : ByteArray) : ∀ l : List Hdr, (dropH x l).length + (valsOf x l).length = l.length
  | [] => rfl
  | r :: l => by
    have ih := vals_drop_len x l
    simp only [dropH, valsOf, List.length_map, List.filter_cons] at ih ⊢
    by_cases h : lowS r.name = x
    · simp only [h, not_true, decide_false, decide_true, Bool.false_eq_true, if_false, if_true, List.length_cons]
      omega
    · simp only [h, not_false_eq_true, decide_true, decide_false, Bool.false_eq_true, if_false, if_true, List.length_cons]
      omega
/-- A first line that is three words, the last one the version. -/
def wordsOk (ws : List (List UInt8)) : Bool := decide (ws.length = 3) && decide (ws[2]? = some verL)
def hostOk (H : List Hdr) : Bool := decide ((valsOf hostN H).length = 1)
def reqOf (ws : List (List UInt8)) (H : List Hdr) : Rq := ⟨hmk (ws.getD 0 []), hmk (hjoinL (valsOf hostN H)), hmk (ws.getD 1 []), dropH hostN H⟩
def readQ (d : List UInt8) : Int × Rq :=
  if 8000 < d.length then (2, rq0) else match firstO d with
  | none => (5, rq0)
  | some x => if readHC (hmk x.2) = 0 then (if (wordsOk (cutG 32 [] x.1) && hostOk (readHL (hmk x.2))) = true then (if rqC (reqOf (cutG 32 [] x.1) (readHL (hmk x.2))) = 0 then (0, reqOf (cutG 32 [] x.1) (readHL (hmk x.2))) else (rqC (reqOf (cutG 32 [] x.1) (readHL (hmk x.2))), rq0)) else (5, rq0)) else (readHC (hmk x.2), rq0)
theorem readQ_long {d : List UInt8} (h : 8000 < d.length) : readQ d = (2, rq0) := by rw [readQ, if_pos h]
theorem readQ_none {d : List UInt8} (h : ¬ 8000 < d.length) (h1 : firstO d = none) : readQ d = (5, rq0) := by rw [readQ, if_neg h, h1]
theorem readQ_heads {d : List UInt8} {a b : List UInt8} (h : ¬ 8000 < d.length) (h1 : firstO d = some (a, b)) (h2 : ¬ readHC (hmk b) = 0) : readQ d = (readHC (hmk b), rq0) := by rw [readQ, if_neg h, h1]; simp only; rw [if_neg h2]
theorem readQ_words {d : List UInt8} {a b : List UInt8} (h : ¬ 8000 < d.length) (h1 : firstO d = some (a, b)) (h2 : readHC (hmk b) = 0) (h3 : (wordsOk (cutG 32 [] a) && hostOk (readHL (hmk b))) = false) : readQ d = (5, rq0) := by rw [readQ, if_neg h, h1]; simp only; rw [if_pos h2, if_neg (by rw [h3]; decide)]
theorem readQ_fault {d : List UInt8} {a b : List UInt8} (h : ¬ 8000 < d.length) (h1 : firstO d = some (a, b)) (h2 : readHC (hmk b) = 0) (h3 : (wordsOk (cutG 32 [] a) && hostOk (readHL (hmk b))) = true) (h4 : ¬ rqC (reqOf (cutG 32 [] a) (readHL (hmk b))) = 0) : readQ d = (rqC (reqOf (cutG 32 [] a) (readHL (hmk b))), rq0) := by rw [readQ, if_neg h, h1]; simp only; rw [if_pos h2, if_pos h3, if_neg h4]
theorem readQ_ok {d : List UInt8} {a b : List UInt8} (h : ¬ 8000 < d.length) (h1 : firstO d = some (a, b)) (h2 : readHC (hmk b) = 0) (h3 : (wordsOk (cutG 32 [] a) && hostOk (readHL (hmk b))) = true) (h4 : rqC (reqOf (cutG 32 [] a) (readHL (hmk b))) = 0) : readQ d = (0, reqOf (cutG 32 [] a) (readHL (hmk b))) := by rw [readQ, if_neg h, h1]; simp only; rw [if_pos h2, if_pos h3, if_pos h4]
/-! ### responses -/
structure Rp where
  s : Int
  l : List Hdr
  b : List UInt8
def rp0 : Rp := ⟨0, [], []⟩
def rpC (q : Rp) : Int := respC q.s q.l q.b.length
def ccL : List UInt8 := [13, 10, 13, 10]
def ccAt (l : List UInt8) : Nat := patAt ccL l
def headB (d : List UInt8) : List UInt8 := d.take (ccAt d) ++ [13, 10]
def lnP (d : List UInt8) : List UInt8 := (headB d).take (crAt (headB d))
def restP (d : List UInt8) : List UInt8 := (headB d).drop (crAt (headB d) + 2)
def bodyP (d : List UInt8) : List UInt8 := d.drop (ccAt d + 4)
def lineOk (ln : List UInt8) : Bool := decide (ln.length = 12) && decide (ln.take 9 = verL ++ [32]) && okD (hmk (ln.drop 9))
def respOf (d : List UInt8) : Rp := ⟨valD ((lnP d).drop 9), readHL (hmk (restP d)), bodyP d⟩
def readP (d : List UInt8) : Int × Rp :=
  if 10000 < d.length then (2, rp0) else if ccAt d < d.length then (if readHC (hmk (restP d)) = 0 then (if lineOk (lnP d) = true then (if rpC (respOf d) = 0 then (0, respOf d) else (rpC (respOf d), rp0)) else (5, rp0)) else (readHC (hmk (restP d)), rp0)) else (5, rp0)
theorem readP_long {d : List UInt8} (h : 10000 < d.length) : readP d = (2, rp0) := by rw [readP, if_pos h]
theorem readP_none {d : List UInt8} (h : ¬ 10000 < d.length) (h1 : ¬ ccAt d < d.length) : readP d = (5, rp0) := by rw [readP, if_neg h, if_neg h1]
theorem readP_heads {d : List UInt8} (h : ¬ 10000 < d.length) (h1 : ccAt d < d.length) (h2 : ¬ readHC (hmk (restP d)) = 0) : readP d = (readHC (hmk (restP d)), rp0) := by rw [readP, if_neg h, if_pos h1, if_neg h2]
theorem readP_line {d : List UInt8} (h : ¬ 10000 < d.length) (h1 : ccAt d < d.length) (h2 : readHC (hmk (restP d)) = 0) (h3 : lineOk (lnP d) = false) : readP d = (5, rp0) := by rw [readP, if_neg h, if_pos h1, if_pos h2, if_neg (by rw [h3]; decide)]
theorem readP_fault {d : List UInt8} (h : ¬ 10000 < d.length) (h1 : ccAt d < d.length) (h2 : readHC (hmk (restP d)) = 0) (h3 : lineOk (lnP d) = true) (h4 : ¬ rpC (respOf d) = 0) : readP d = (rpC (respOf d), rp0) := by rw [readP, if_neg h, if_pos h1, if_pos h2, if_pos h3, if_neg h4]
theorem readP_ok {d : List UInt8} (h : ¬ 10000 < d.length) (h1 : ccAt d < d.length) (h2 : readHC (hmk (restP d)) = 0) (h3 : lineOk (lnP d) = true) (h4 : rpC (respOf d) = 0) : readP d = (0, respOf d) := by rw [readP, if_neg h, if_pos h1, if_pos h2, if_pos h3, if_pos h4]
/-- A line's end that stands behind a text: where the first one stands. -/
theorem crAt_app (h t : List UInt8) : crAt (h ++ 13 :: 10 :: t) ≤ h.length ∧ crAt (h ++ 13 :: 10 :: t) = crAt (h ++ [13, 10]) := by
  induction h with
  | nil => simp [crAt]
  | cons x h ih =>
    cases h with
    | nil =>
      have : ¬ ((13 : UInt8) = 10) := by decide
      simp [crAt, this]
    | cons y h =>
      simp only [List.cons_append] at ih ⊢
      rw [crAt, crAt]
      by_cases e : x = 13 ∧ y = 10
      · rw [if_pos e, if_pos e]; simp
      · rw [if_neg e, if_neg e]
        refine ⟨?_, by rw [ih.2]⟩
        have := ih.1
        simp only [List.length_cons] at this ⊢; omega
theorem crAt_apart (h : List UInt8) : crAt (h ++ [13, 10]) = h.length ∨ crAt (h ++ [13, 10]) + 2 ≤ h.length := by
  obtain ⟨h1, _⟩ := crAt_app h []
  have h2 := crAt_is (h ++ [13, 10]) (by simp; omega)
  by_cases c : crAt (h ++ [13, 10]) + 1 = h.length
  · exfalso
    obtain ⟨t, ht⟩ := List.isPrefixOf_iff_prefix.1 h2
    have e1 := congrArg (fun l => l[1]?) ht
    simp only [List.getElem?_drop, c] at e1
    simp at e1
  · omega
theorem firstO_two (h : List UInt8) : firstO (h ++ [13, 10] ++ [13, 10]) = some ((h ++ [13, 10]).take (crAt (h ++ [13, 10])), (h ++ [13, 10]).drop (crAt (h ++ [13, 10]) + 2)) := by
  have e0 : h ++ [13, 10] ++ [13, 10] = h ++ 13 :: 10 :: [13, 10] := by simp
  obtain ⟨h1, h2⟩ := crAt_app h [13, 10]
  have h3 := crAt_apart h
  have hc : crAt (h ++ [13, 10] ++ [13, 10]) = crAt (h ++ [13, 10]) := by rw [e0]; exact h2
  have hle : crAt (h ++ [13, 10]) ≤ h.length := by rw [← h2]; exact h1
  generalize hk : crAt (h ++ [13, 10]) = k at *
  have ed : (h ++ [13, 10] ++ [13, 10]).drop (k + 2) = (h ++ [13, 10]).drop (k + 2) ++ [13, 10] := by
    rw [List.drop_append_of_le_length (by simp; omega)]
  have ok : okRest ((h ++ [13, 10] ++ [13, 10]).drop (k + 2)) = true := by
    rw [ed]
    rcases h3 with h3 | h3
    · have : (h ++ [13, 10]).drop (k + 2) = [] := by rw [h3]; exact List.drop_of_length_le (by simp)
      rw [this]; rfl
    · have : (h ++ [13, 10]).drop (k + 2) = h.drop (k + 2) ++ [13, 10] := List.drop_append_of_le_length h3
      rw [this]
      simp only [okRest, Bool.or_eq_true]
      refine .inr ?_
      rw [List.isSuffixOf_iff_suffix]
      exact ⟨h.drop (k + 2), by simp⟩
  rw [firstO_yes (by rw [hc]; simp; omega) (by rw [hc]; exact ok), hc, ed]
  congr 2
  · rw [List.take_append_of_le_length (by simp; omega)]
  · rw [List.take_append_of_le_length (by simp only [List.length_append, List.length_drop, List.length_cons, List.length_nil]; omega)]
    exact List.take_of_length_le (by simp only [List.length_append, List.length_drop, List.length_cons, List.length_nil]; omega)
theorem ccAt_room {d : List UInt8} (h : ccAt d < d.length) : ccAt d + 4 ≤ d.length ∧ d.take (ccAt d + 4) = headB d ++ [13, 10] := by
  have h2 : ccL.isPrefixOf (d.drop (ccAt d)) = true := patAt_is ccL d h
  obtain ⟨t, ht⟩ := List.isPrefixOf_iff_prefix.1 h2
  unfold headB
  generalize ccAt d = k at *
  have hl := congrArg List.length ht
  simp only [List.length_append, List.length_drop, ccL, List.length_cons, List.length_nil] at hl
  refine ⟨by omega, ?_⟩
  have e : d = d.take k ++ (ccL ++ t) := by
    rw [ht, List.take_append_drop]
  have hlen : (d.take k).length = k := by rw [List.length_take]; omega
  generalize d.take k = f at *
  subst e
  rw [List.take_append, hlen, List.take_of_length_le (by omega), show k + 4 - k = 4 from by omega]
  simp [ccL]
theorem firstO_headB {d : List UInt8} (h : ccAt d < d.length) : firstO (d.take (ccAt d + 4)) = some (lnP d, restP d) := by
  rw [(ccAt_room h).2]
  exact firstO_two _
end Go.Proofs.YtonnggelpjjmmaaGreatDoor
/-
  Requests that were packed are read back, plainly. No Go in sight.
-/
namespace Go.Proofs.YtonnggelpjjmmaaGreatDoor
theorem cutG_word (c : UInt8) : ∀ (a cur r : List UInt8), (∀ x ∈ a, x ≠ c) → cutG c cur (a ++ c :: r) = (cur ++ a) :: cutG c [] r
  | [], cur, r, _ => by rw [List.nil_append, cutG_at, List.append_nil]
  | x :: a, cur, r, h => by
    rw [List.cons_append, cutG_on _ _ (h x (by simp)), cutG_word c a _ r (fun y hy => h y (by simp [hy])), List.append_assoc]
    rfl
theorem cutG_last (c : UInt8) : ∀ (a cur : List UInt8), (∀ x ∈ a, x ≠ c) → cutG c cur a = [cur ++ a]
  | [], cur, _ => by rw [List.append_nil]; rfl
  | x :: a, cur, h => by
    rw [cutG_on _ _ (h x (by simp)), cutG_last c a _ (fun y hy => h y (by simp [hy])), List.append_assoc]
    rfl
theorem meth_mem {m : ByteArray} (h : methS m = true) : m.data.toList.length ≤ 4 ∧ ∀ c ∈ m.data.toList, c ≠ 32 ∧ c ≠ 13 := by
  simp only [methS, Bool.or_eq_true, decide_eq_true_eq] at h
  rcases h with rfl | rfl <;> exact ⟨by decide, by decide⟩
theorem path_mem {p : ByteArray} (h : pathS p = true) : p.data.toList.length ≤ 100 ∧ ∀ c ∈ p.data.toList, c ≠ 32 ∧ c ≠ 13 := by
  simp only [pathS, Bool.and_eq_true, decide_eq_true_eq] at h
  refine ⟨by have := h.1.2; simpa using this, fun c hc => ?_⟩
  have hp : pathI (c.toNat : Int) = true := allP_mem h.2 c hc
  constructor
  · rintro rfl; exact absurd hp (by decide +kernel)
  · rintro rfl; exact absurd hp (by decide +kernel)
theorem packL_end {l : List Hdr} (h : l ≠ []) : ∃ q, packL l = q ++ [13, 10] := by
  obtain ⟨i, r, rfl⟩ : ∃ i r, l = i ++ [r] := ⟨l.dropLast, l.getLast h, (List.dropLast_concat_getLast h).symm⟩
  exact ⟨packL i ++ (r.name.data.toList ++ [58, 32] ++ r.value.data.toList), by simp [packL, lineL]⟩
/-- A first line, and head lines behind it. -/
theorem firstO_line {a b : List UInt8} (ha : ∀ c ∈ a, c ≠ 13) (hb : b = [] ∨ ∃ q, b = q ++ [13, 10]) : firstO (a ++ 13 :: 10 :: (b ++ [13, 10])) = some (a, b) := by
  have e := crAt_line a (b ++ [13, 10]) ha
  have d : (a ++ 13 :: 10 :: (b ++ [13, 10])).drop (a.length + 2) = b ++ [13, 10] := by
    rw [List.drop_append, List.drop_of_length_le (by omega), show a.length + 2 - a.length = 2 from by omega]; rfl
  have ok : okRest (b ++ [13, 10]) = true := by
    simp only [okRest, Bool.or_eq_true, decide_eq_true_eq]
    rcases hb with rfl | ⟨q, rfl⟩
    · exact .inl rfl
    · refine .inr ?_
      rw [List.isSuffixOf_iff_suffix]
      exact ⟨q, by simp⟩
  rw [firstO_yes (by rw [e]; simp) (by rw [e, d]; exact ok), e, d]
  refine congrArg some (Prod.ext ?_ ?_)
  · simp
  · show List.take _ _ = b
    have el : (a ++ 13 :: 10 :: (b ++ [13, 10])).length - (a.length + 2) - 2 = b.length := by simp only [List.length_append, List.length_cons, List.length_nil]; omega
    rw [el]
    exact List.take_left
theorem dropH_none {x : ByteArray} : ∀ {l : List Hdr}, valsOf x l = [] → dropH x l = l
  | [], _ => rfl
  | r :: l, h => by
    simp only [valsOf, List.filter_cons] at h
    by_cases c : lowS r.name = x
    · rw [if_pos (by simpa using c)] at h; simp at h
    · rw [if_neg (by simpa using c)] at h
      have ih := dropH_none (l := l) h
      simp only [dropH, List.filter_cons] at ih ⊢
      rw [if_pos (by simpa using c), ih]
theorem readQ_pack {m h p : ByteArray} {l : List Hdr} (c : reqC m h p l = 0) : readQ (reqL m h p l) = (0, ⟨m, h, p, l⟩) := by
  obtain ⟨c1, c2, c3, c4⟩ := reqC_zero c
  obtain ⟨d1, d2, d3⟩ := lineS_true c1
  obtain ⟨m1, m2⟩ := meth_mem d1
  obtain ⟨p1, p2⟩ := path_mem d3
  have hh := host_heads d2 c2 c4
  have hlen := packL_len hh
  have hrd := pack_read hh
  rw [packT_ok hh] at hrd
  have eL : reqL m h p l = (m.data.toList ++ 32 :: (p.data.toList ++ 32 :: verL)) ++ 13 :: 10 :: (packL (⟨hostT, h⟩ :: l) ++ [13, 10]) := by simp [reqL]
  have hf : firstO (reqL m h p l) = some (m.data.toList ++ 32 :: (p.data.toList ++ 32 :: verL), packL (⟨hostT, h⟩ :: l)) := by
    rw [eL]
    refine firstO_line ?_ (.inr (packL_end (by simp)))
    intro x hx
    simp only [List.mem_append, List.mem_cons] at hx
    rcases hx with hx | rfl | hx | rfl | hx
    · exact (m2 x hx).2
    · decide
    · exact (p2 x hx).2
    · decide
    · revert x; decide
  have hw : cutG 32 [] (m.data.toList ++ 32 :: (p.data.toList ++ 32 :: verL)) = [m.data.toList, p.data.toList, verL] := by
    rw [cutG_word 32 _ _ _ (fun x hx => (m2 x hx).1), cutG_word 32 _ _ _ (fun x hx => (p2 x hx).1), cutG_last 32 _ _ (by decide)]
    simp
  have hv : valsOf hostN (⟨hostT, h⟩ :: l) = [h] := by
    have : valsOf hostN (⟨hostT, h⟩ :: l) = h :: valsOf hostN l := by
      simp only [valsOf, List.filter_cons]
      rw [if_pos (by simpa using hostT_low)]
      rfl
    rw [this, c3]
  have hdr : dropH hostN (⟨hostT, h⟩ :: l) = l := by
    have : dropH hostN (⟨hostT, h⟩ :: l) = dropH hostN l := by
      simp only [dropH, List.filter_cons]
      rw [if_neg (by simp [hostT_low])]
    rw [this, dropH_none c3]
  have hq : reqOf (cutG 32 [] (m.data.toList ++ 32 :: (p.data.toList ++ 32 :: verL))) (readHL (hmk (packL (⟨hostT, h⟩ :: l)))) = ⟨m, h, p, l⟩ := by
    rw [show hmk (packL (⟨hostT, h⟩ :: l)) = ⟨(packL (⟨hostT, h⟩ :: l)).toArray⟩ from rfl, hrd.2, hw]
    unfold reqOf
    rw [hv, hdr]
    have e1 : hmk (hjoinL [h]) = h := by simp [hjoinL, Lib.join, List.intercalate, hmk]
    have e2 : ∀ x : ByteArray, hmk x.data.toList = x := fun x => by simp [hmk]
    rw [e1]
    show (⟨hmk m.data.toList, h, hmk p.data.toList, l⟩ : Rq) = _
    rw [e2, e2]
  have hlong : ¬ 8000 < (reqL m h p l).length := by
    rw [eL]
    simp only [List.length_append, List.length_cons, List.length_nil, verL] at hlen ⊢
    omega
  rw [readQ_ok hlong hf hrd.1 ?_ ?_, hq]
  · rw [hw, show hmk (packL (⟨hostT, h⟩ :: l)) = ⟨(packL (⟨hostT, h⟩ :: l)).toArray⟩ from rfl, hrd.2]
    simp [wordsOk, hostOk, hv]
  · rw [hq]; exact c
end Go.Proofs.YtonnggelpjjmmaaGreatDoor
/-
  Keys, plainly: a key's own key is itself; a full key begins with its key; the host in small letters.
-/
namespace Go.Proofs.YtonnggelpjjmmaaGreatDoor
theorem lowU_two (c : UInt8) : lowU (lowU c) = lowU c := by
  by_cases h : 65 ≤ (c.toNat : Int) ∧ (c.toNat : Int) ≤ 90
  · have e := lowU_yes c h.1 h.2
    exact lowU_no _ (by omega)
  · rw [lowU_no c h, lowU_no c h]
theorem lowS_twice (s : ByteArray) : lowS (lowS s) = lowS s := by
  unfold lowS
  congr 1
  simp [lowU_two]
theorem lowS_mem {s : ByteArray} {c : UInt8} (h : c ∈ (lowS s).data.toList) : ∃ d ∈ s.data.toList, c = lowU d := by
  have e : (lowS s).data.toList = s.data.toList.map lowU := rfl
  rw [e, List.mem_map] at h
  obtain ⟨d, hd, rfl⟩ := h
  exact ⟨d, hd, rfl⟩
theorem hostI_low (c : UInt8) (h : hostI (c.toNat : Int) = true) : hostI ((lowU c).toNat : Int) = true := by
  by_cases u : 65 ≤ (c.toNat : Int) ∧ (c.toNat : Int) ≤ 90
  · have e := lowU_yes c u.1 u.2
    rw [e]
    simp [hostI]
    omega
  · rw [lowU_no c u]; exact h
theorem cutG_mem (c : UInt8) : ∀ (l cur : List UInt8), (∀ x ∈ cur, x ≠ c) → ∀ p ∈ cutG c cur l, ∀ x ∈ p, x ≠ c
  | [], cur, h, p, hp, x, hx => by
    simp only [cutG, List.mem_singleton] at hp
    subst hp
    exact h x hx
  | y :: l, cur, h, p, hp, x, hx => by
    rw [cutG] at hp
    split at hp
    · rcases List.mem_cons.1 hp with rfl | hp
      · exact h x hx
      · exact cutG_mem c l [] (fun z hz => by simp at hz) p hp x hx
    · rename_i hy
      exact cutG_mem c l (cur ++ [y]) (fun z hz => by
        rcases List.mem_append.1 hz with hz | hz
        · exact h z hz
        · simp only [List.mem_singleton] at hz; subst hz; exact hy) p hp x hx
theorem cutG_all {q : UInt8 → Prop} (c : UInt8) : ∀ (l cur : List UInt8), (∀ x ∈ cur, q x) → (∀ x ∈ l, q x) → ∀ p ∈ cutG c cur l, ∀ x ∈ p, q x
  | [], cur, h, _, p, hp, x, hx => by
    simp only [cutG, List.mem_singleton] at hp
    subst hp
    exact h x hx
  | y :: l, cur, h, hl, p, hp, x, hx => by
    rw [cutG] at hp
    split at hp
    · rcases List.mem_cons.1 hp with rfl | hp
      · exact h x hx
      · exact cutG_all c l [] (fun z hz => by simp at hz) (fun z hz => hl z (List.mem_cons_of_mem _ hz)) p hp x hx
    · exact cutG_all c l (cur ++ [y]) (fun z hz => by
        rcases List.mem_append.1 hz with hz | hz
        · exact h z hz
        · simp only [List.mem_singleton] at hz; subst hz; exact hl z (List.mem_cons_self ..)) (fun z hz => hl z (List.mem_cons_of_mem _ hz)) p hp x hx
theorem cutG_total (c : UInt8) : ∀ (l cur : List UInt8), sumL (cutG c cur l) + (cutG c cur l).length = l.length + cur.length + 1
  | [], cur => by simp [cutG, sumL]
  | y :: l, cur => by
    rw [cutG]
    split
    · have := cutG_total c l []
      simp only [sumL, List.map_cons, List.sum_cons, List.length_cons, List.length_nil] at this ⊢
      omega
    · have := cutG_total c l (cur ++ [y])
      simp only [List.length_append, List.length_cons, List.length_nil] at this ⊢
      omega
theorem cutG_join (c : UInt8) : ∀ (r : List (List UInt8)) (x : List UInt8), (∀ p ∈ x :: r, ∀ z ∈ p, z ≠ c) → cutG c [] (Lib.join (x :: r) [c]) = x :: r
  | [], x, h => by
    rw [Lib.join_one, cutG_last c x [] (h x (List.mem_cons_self ..))]; simp
  | y :: r, x, h => by
    have e : Lib.join (x :: y :: r) [c] = x ++ c :: Lib.join (y :: r) [c] := by
      rw [Lib.join_cons, Lib.join_cons]
      simp [Lib.joinTail]
    rw [e, cutG_word c x [] _ (h x (List.mem_cons_self ..)), cutG_join c r y (fun p hp => h p (List.mem_cons_of_mem _ hp))]; simp
theorem join_mem {c : UInt8} : ∀ (r : List (List UInt8)) (z : UInt8), z ∈ Lib.join r [c] → z = c ∨ ∃ p ∈ r, z ∈ p
  | [], z, h => by simp [Lib.join_nil] at h
  | [x], z, h => by rw [Lib.join_one] at h; exact .inr ⟨x, by simp, h⟩
  | x :: y :: r, z, h => by
    have e : Lib.join (x :: y :: r) [c] = x ++ c :: Lib.join (y :: r) [c] := by
      rw [Lib.join_cons, Lib.join_cons]
      simp [Lib.joinTail]
    rw [e] at h
    rcases List.mem_append.1 h with h | h
    · exact .inr ⟨x, by simp, h⟩
    · rcases List.mem_cons.1 h with h | h
      · exact .inl h
      · rcases join_mem (y :: r) z h with h | ⟨p, hp, hz⟩
        · exact .inl h
        · exact .inr ⟨p, List.mem_cons_of_mem _ hp, hz⟩
theorem sortS_of_sorted (l : List (List UInt8)) (h : l.Pairwise (· ≤ ·)) : sortS l = l :=
  List.Perm.eq_of_pairwise (fun _ _ _ _ h1 h2 => List.le_antisymm h1 h2) (sortS_sorted l) h (sortS_perm l)
theorem fullP_all {l : List (List UInt8)} (h : ∀ p ∈ l, p ≠ []) : fullP l = l := by
  unfold fullP
  rw [List.filter_eq_self]
  intro p hp
  have := h p hp
  cases p with
  | nil => exact absurd rfl this
  | cons x p => rfl
theorem fullP_mem {l : List (List UInt8)} {p : List UInt8} (h : p ∈ fullP l) : p ∈ l ∧ p ≠ [] := by
  unfold fullP at h
  obtain ⟨h1, h2⟩ := List.mem_filter.1 h
  refine ⟨h1, fun e => ?_⟩
  subst e
  simp at h2
theorem keyParts_mem {p : List UInt8} {q : List UInt8} (h : q ∈ keyParts p) : q ≠ [] ∧ (∀ x ∈ q, x ≠ 38) ∧ ∀ x ∈ q, x ∈ p := by
  unfold keyParts at h
  have h1 := (sortS_perm _).mem_iff.1 h
  obtain ⟨h2, h3⟩ := fullP_mem h1
  refine ⟨h3, cutG_mem 38 _ [] (fun z hz => by simp at hz) q h2, ?_⟩
  exact cutG_all (q := fun x => x ∈ p) 38 _ [] (fun z hz => by simp at hz) (fun z hz => List.mem_of_mem_drop hz) q h2
theorem qAt_no : ∀ (l : List UInt8), ∀ x ∈ l.take (qAt l), x ≠ 63
  | [], x, h => by simp at h
  | y :: l, x, h => by
    rw [qAt] at h
    split at h
    · simp at h
    · rename_i hy
      rw [List.take_succ_cons] at h
      rcases List.mem_cons.1 h with rfl | h
      · exact hy
      · exact qAt_no l x h
theorem qAt_all : ∀ (l : List UInt8), (∀ x ∈ l, x ≠ 63) → qAt l = l.length
  | [], _ => rfl
  | y :: l, h => by
    rw [qAt, if_neg (h y (by simp)), qAt_all l (fun x hx => h x (by simp [hx]))]; simp
theorem qAt_app : ∀ (l r : List UInt8), (∀ x ∈ l, x ≠ 63) → qAt (l ++ 63 :: r) = l.length
  | [], r, _ => by simp [qAt]
  | y :: l, r, h => by
    rw [List.cons_append, qAt, if_neg (h y (by simp)), qAt_app l r (fun x hx => h x (by simp [hx]))]; simp
/-- The path of a key. -/
def keyP (p : List UInt8) : List UInt8 := p.take (qAt p) ++ keyQ (keyParts p)
theorem keyP_again (p : List UInt8) : (keyP p).take (qAt (keyP p)) = p.take (qAt p) ∧ keyParts (keyP p) = keyParts p := by
  have hn := qAt_no p
  by_cases h : keyParts p = []
  · have e : keyP p = p.take (qAt p) := by rw [keyP, h, keyQ_nil, List.append_nil]
    have eq := qAt_all _ hn
    rw [e, eq]
    refine ⟨List.take_of_length_le (Nat.le_refl _), ?_⟩
    rw [keyParts_none _ eq, h]
  · have e : keyP p = p.take (qAt p) ++ 63 :: Lib.join (keyParts p) [38] := by rw [keyP, keyQ, if_neg h]
    have eq : qAt (keyP p) = (p.take (qAt p)).length := by rw [e, qAt_app _ _ hn]
    refine ⟨by rw [eq, e, List.take_left'] ; rfl, ?_⟩
    have ed : (keyP p).drop (qAt (keyP p) + 1) = Lib.join (keyParts p) [38] := by
      rw [eq, e, ← List.drop_drop, List.drop_left' rfl]; rfl
    have hc : cutG 38 [] (Lib.join (keyParts p) [38]) = keyParts p := by
      obtain ⟨x, r, hx⟩ : ∃ x r, keyParts p = x :: r := by
        cases hk : keyParts p with
        | nil => exact absurd hk h
        | cons x r => exact ⟨x, r, rfl⟩
      rw [hx]
      exact cutG_join 38 r x (fun q hq => by rw [← hx] at hq; exact (keyParts_mem hq).2.1)
    conv => lhs; rw [keyParts]
    rw [ed, hc, fullP_all (fun q hq => (keyParts_mem hq).1)]
    exact sortS_of_sorted _ (by unfold keyParts; exact sortS_sorted _)
theorem keyP_len (p : List UInt8) : (keyP p).length ≤ p.length := by
  by_cases h : keyParts p = []
  · rw [keyP, h, keyQ_nil, List.append_nil, List.length_take]; omega
  · have hq : qAt p < p.length := by
      have := qAt_le p
      rcases Nat.lt_or_ge (qAt p) p.length with hl | hl
      · exact hl
      · exact absurd (keyParts_none p (by omega)) h
    have h1 := keyQ_len (keyParts p)
    have h2 : sumL (keyParts p) + (keyParts p).length ≤ (p.drop (qAt p + 1)).length + 1 := by
      unfold keyParts
      rw [sortS_sum, sortS_len]
      have a := fullP_sum (cutG 38 [] (p.drop (qAt p + 1)))
      have b := fullP_len (cutG 38 [] (p.drop (qAt p + 1)))
      have c := cutG_total 38 (p.drop (qAt p + 1)) []
      simp only [List.length_nil] at c
      omega
    rw [keyP, List.length_append, List.length_take]
    rw [List.length_drop] at h2
    omega
theorem keyP_mem {p : List UInt8} {x : UInt8} (h : x ∈ keyP p) : x = 63 ∨ x = 38 ∨ x ∈ p := by
  rw [keyP] at h
  rcases List.mem_append.1 h with h | h
  · exact .inr (.inr (List.mem_of_mem_take h))
  · rw [keyQ] at h
    split at h
    · simp at h
    · rcases List.mem_cons.1 h with h | h
      · exact .inl h
      · rcases join_mem _ _ h with h | ⟨q, hq, hz⟩
        · exact .inr (.inl h)
        · exact .inr (.inr ((keyParts_mem hq).2.2 x hz))
theorem pathS_of {s : ByteArray} (h : pathS s = true) : s.data.toList.head? = some 47 ∧ s.data.toList.length ≤ 100 ∧ allP pathI s.data.toList = true := by
  simp only [pathS, Bool.and_eq_true, decide_eq_true_eq] at h
  exact ⟨h.1.1, by have := h.1.2; rw [Array.length_toList]; exact this, h.2⟩
theorem keyP_path {p : ByteArray} (h : pathS p = true) : pathS (hmk (keyP p.data.toList)) = true := by
  obtain ⟨h1, h2, h3⟩ := pathS_of h
  have ed : (hmk (keyP p.data.toList)).data.toList = keyP p.data.toList := rfl
  have hl := keyP_len p.data.toList
  have hz : (hmk (keyP p.data.toList)).size ≤ 100 := by
    show (keyP p.data.toList).toArray.size ≤ 100
    rw [List.size_toArray]; omega
  have hh : (keyP p.data.toList).head? = some 47 := by
    generalize p.data.toList = l at *
    cases l with
    | nil => simp at h1
    | cons y l =>
      simp only [List.head?_cons, Option.some.injEq] at h1
      subst h1
      rw [keyP, qAt, if_neg (by decide), List.take_succ_cons]; rfl
  simp only [pathS, Bool.and_eq_true, decide_eq_true_eq]
  refine ⟨⟨by rw [ed]; exact hh, hz⟩, ?_⟩
  rw [ed]
  refine allP_of_mem fun c hc => ?_
  rcases keyP_mem hc with rfl | rfl | hc
  · decide
  · decide
  · exact allP_mem h3 c hc
theorem lowS_host {h : ByteArray} (hh : hostS h = true) : hostS (lowS h) = true := by
  simp only [hostS, Bool.and_eq_true, decide_eq_true_eq] at hh ⊢
  obtain ⟨⟨h1, h2⟩, h3⟩ := hh
  rw [lowS_size]
  refine ⟨⟨h1, h2⟩, allP_of_mem fun c hc => ?_⟩
  obtain ⟨d, hd, rfl⟩ := lowS_mem hc
  exact hostI_low d (allP_mem h3 d hd)
theorem lineS_of {m h p : ByteArray} (c : lineS m h p = true) : methS m = true ∧ hostS h = true ∧ pathS p = true := by
  simp only [lineS, Bool.and_eq_true] at c
  exact ⟨c.1.1, c.1.2, c.2⟩
theorem line_of_req {m h p : ByteArray} {l : List Hdr} (c : reqC m h p l = 0) : lineS m h p = true := by
  by_cases hl : lineS m h p = true
  · exact hl
  · rw [reqC_bad (by simpa using hl)] at c
    exact absurd c (by decide)
theorem req_small {m h p : ByteArray} {l : List Hdr} (c : reqC m h p l = 0) : reqC m (lowS h) p l = 0 := by
  have hl := line_of_req c
  obtain ⟨h1, h2, h3⟩ := lineS_of hl
  rw [reqC_ok hl] at c
  rw [reqC_ok (by simp [lineS, h1, h3, lowS_host h2]), c]
theorem req_again {m h p : ByteArray} {l : List Hdr} (c : reqC m h p l = 0) : reqC m (lowS h) (hmk (keyP p.data.toList)) l = 0 := by
  have hl := line_of_req c
  obtain ⟨h1, h2, h3⟩ := lineS_of hl
  rw [reqC_ok hl] at c
  rw [reqC_ok (by simp [lineS, h1, lowS_host h2, keyP_path h3]), c]
theorem keyT_eq (h p : ByteArray) : keyT h p = (lowS h).data.toList ++ keyP p.data.toList := by rw [keyT, keyP, List.append_assoc]
theorem keyT_small (h p : ByteArray) : keyT (lowS h) p = keyT h p := by rw [keyT_eq, keyT_eq, lowS_twice]
theorem keyT_again (h p : ByteArray) : keyT (lowS h) (hmk (keyP p.data.toList)) = keyT h p := by
  have ed : (hmk (keyP p.data.toList)).data.toList = keyP p.data.toList := rfl
  rw [keyT_eq, keyT_eq, lowS_twice, ed]
  congr 1
  conv => lhs; rw [keyP]
  rw [(keyP_again p.data.toList).1, (keyP_again p.data.toList).2, keyP]
theorem fullL_small (h p : ByteArray) (l : List Hdr) (ns : List ByteArray) : fullL (lowS h) p l ns = fullL h p l ns := by rw [fullL, fullL, keyT_small]
theorem fullL_again (h p : ByteArray) (l : List Hdr) (ns : List ByteArray) : fullL (lowS h) (hmk (keyP p.data.toList)) l ns = fullL h p l ns := by rw [fullL, fullL, keyT_again]
theorem fullL_head (h p : ByteArray) (l : List Hdr) (ns : List ByteArray) : ∃ r, fullL h p l ns = keyT h p ++ r := by
  rw [fullL]
  generalize keyT h p = o
  induction ns generalizing o with
  | nil => exact ⟨[], by simp⟩
  | cons x ns ih =>
    obtain ⟨r, hr⟩ := ih (addN l o x)
    refine ⟨[32] ++ (lowS x).data.toList ++ [61] ++ hjoinL (valsOf (lowS x) l) ++ r, ?_⟩
    rw [List.foldl_cons, hr, addN]
    simp only [List.append_assoc]
end Go.Proofs.YtonnggelpjjmmaaGreatDoor
/-
  What FullKey answers.
-/
namespace Go.Proofs.YtonnggelpjjmmaaGreatDoor
open Go.ChangeShapes Go.WideShapes Go.ChangeAt Go.RowKit
theorem joinT_word {l : List Hdr} {x : ByteArray} (h0 : headsC l = 0) (hx : wordS x = true) : joinT l x = hmk (hjoinL (valsOf (lowS x) l)) := by
  have ha := askC_word h0 hx
  by_cases hv : valsOf (lowS x) l = []
  · rw [(join_none ha hv).2, hv]; rfl
  · exact (join_some ha hv).2
/-- What lies in memory while the names are told. -/
structure FLoop (w : World) (m h p : ByteArray) (hv : Value) (B5 : Nat) (o : ByteArray) (X : World) : Prop where
  two : Two X B5 (.int .i64 0) (.string o)
  res : Two X (w.heap.size + 1) (.int .i64 0) (.string ⟨#[]⟩)
  four : Four X w.heap.size (.string m) (.string h) (.string p) hv
  bel : Below w.heap.size w X
theorem FLoop.keep {w : World} {m h p : ByteArray} {hv : Value} {B5 : Nat} {o : ByteArray} {X X' : World} (k : FLoop w m h p hv B5 o X) (hb : Below X.heap.size X X') : FLoop w m h p hv B5 o X' :=
  ⟨k.two.keep hb, k.res.keep hb, k.four.keep hb, k.bel.trans (hb.mono k.bel.size)⟩
theorem FLoop.put {w : World} {m h p : ByteArray} {hv : Value} {B5 : Nat} {o : ByteArray} {X : World} (k : FLoop w m h p hv B5 o X) (hB : w.heap.size + 1 < B5) (y : ByteArray) : FLoop w m h p hv B5 y (X.setCell ⟨B5, 1, none⟩ (.string y)) := by
  have ne : ∀ (b i : Nat), b ≠ B5 → (⟨B5, 1, none⟩ : Addr) ≠ ⟨b, i, none⟩ := fun b i hb e => hb (congrArg Addr.block e).symm
  have ot : ∀ (b i : Nat), b ≠ B5 → (X.setCell ⟨B5, 1, none⟩ (.string y)).cell? ⟨b, i, none⟩ = X.cell? ⟨b, i, none⟩ := fun b i hb => World.cell?_setCell_other _ _ _ _ (ne b i hb)
  refine ⟨⟨?_, World.cell?_setCell_same _ _ _ k.two.c1, fun o => by rw [World.frozen?_setCell]; exact k.two.fr o, by simpa using k.two.lt⟩, ⟨by rw [ot _ _ (by omega)]; exact k.res.c0, by rw [ot _ _ (by omega)]; exact k.res.c1, fun o => by rw [World.frozen?_setCell]; exact k.res.fr o, by simpa using k.res.lt⟩, ⟨by rw [ot _ _ (by omega)]; exact k.four.c0, by rw [ot _ _ (by omega)]; exact k.four.c1, by rw [ot _ _ (by omega)]; exact k.four.c2, by rw [ot _ _ (by omega)]; exact k.four.c3, fun o => by rw [World.frozen?_setCell]; exact k.four.fr o, by simpa using k.four.lt⟩, k.bel.setCell (by simp only; omega) _⟩
  rw [World.cell?_setCell_other _ _ _ _ (fun e => by have := congrArg Addr.off e; simp only at this; omega)]
  exact k.two.c0
set_option maxRecDepth 100000 in
set_option maxHeartbeats 16000000 in
theorem implFull_any (E : Errs) (w : World) (m h p : ByteArray) (a : Option Addr) (cap : Nat) (l : List Hdr) (c : Option Addr) (nc : Nat) (ns : List ByteArray) (hl : l.length ≤ 1048576) (hcap : l.length ≤ cap) (hps : p.size ≤ 1048576) (hn : ns.length ≤ 1048576) (hset : SetIs w) (hE : ErrsIs w E) (hmx : MaxIs w) (hi : HdsIn w a l) (ht : TIn w c ns) :
    Calls Tryz.prog 25 #[.agg #[.string m, .string h, .string p, .slice a l.length cap], .slice c ns.length nc] w fun e w' => e = .returned (.agg #[.int .i64 (fullC m h p l ns), .string (fullR m h p l ns)]) ∧ Below w.heap.size w w' := by
  obtain ⟨W, hW⟩ : ∃ W, W = (w.alloc (.cells #[.string m, .string h, .string p, .slice a l.length cap] 26)).alloc (.cells #[.int .i64 0, .string ⟨#[]⟩] 50) := ⟨_, rfl⟩
  have HW : Hid (W = (w.alloc (.cells #[.string m, .string h, .string p, .slice a l.length cap] 26)).alloc (.cells #[.int .i64 0, .string ⟨#[]⟩] 50)) := hW
  have bW : Below w.heap.size w W := by rw [hW]; exact ((Below.refl _ _).alloc (Nat.le_refl _) _).alloc (by simp) _
  have f0 : Four W w.heap.size (.string m) (.string h) (.string p) (.slice a l.length cap) := by rw [hW]; exact (Four.new _ _ _ _ _ _).keep ((Below.refl _ _).alloc (Nat.le_refl _) _)
  have t0 : Two W (w.heap.size + 1) (.int .i64 0) (.string ⟨#[]⟩) := by
    rw [hW]
    have := Two.new (w.alloc (.cells #[.string m, .string h, .string p, .slice a l.length cap] 26)) (.int .i64 0) (.string ⟨#[]⟩) 50
    simpa using this
  have C := implKey_any E W m h p a cap l hl hcap hps (hset.below bW) (hE.below bW) (hmx.below bW) (hi.keep bW)
  have K0 : Hid (Below w.heap.size w W ∧ Four W w.heap.size (.string m) (.string h) (.string p) (.slice a l.length cap) ∧ Two W (w.heap.size + 1) (.int .i64 0) (.string ⟨#[]⟩)) := ⟨bW, f0, t0⟩
  have HI : Hid (∀ X, Below w.heap.size w X → HdsIn X a l ∧ TIn X c ns ∧ SetIs X) := fun X hb => ⟨hi.keep hb, ht.keep hb, hset.below hb⟩
  clear hW bW f0 t0 hi ht hset hE hmx
  have hc3 := K0.out.2.1.c3
  rw [HW.out] at hc3
  have HCC : Hid ((¬ reqC m h p l = 0 → fullC m h p l ns = reqC m h p l ∧ fullR m h p l ns = ⟨#[]⟩ ∧ keyR m h p l = ⟨#[]⟩) ∧ (reqC m h p l = 0 → ¬ namesC ns = 0 → fullC m h p l ns = namesC ns ∧ fullR m h p l ns = ⟨#[]⟩) ∧ (reqC m h p l = 0 → namesC ns = 0 → fullC m h p l ns = 0 ∧ fullR m h p l ns = hmk (fullL h p l ns)) ∧ (reqC m h p l = 0 → (keyR m h p l).data.toList = fullL h p l (ns.take 0) ∧ (keyR m h p l).size ≤ 500 ∧ headsC l = 0)) := by
    refine ⟨fun c0 => ⟨(fullC_bad c0).1, (fullC_bad c0).2, keyR_bad c0⟩, fun c0 c1 => fullC_names c0 c1, fun c0 c1 => fullC_ok c0 c1, fun c0 => ?_⟩
    obtain ⟨y1, y2, y3, y4⟩ := reqC_zero c0
    obtain ⟨z1, z2, z3⟩ := method_size y1
    exact ⟨by rw [keyR_ok c0, hmk_list]; rfl, by rw [keyR_ok c0, hmk_size]; exact keyT_len z2 z3, y2⟩
  have HJ : Hid (headsC l = 0 → ∀ X (x : ByteArray), Below w.heap.size w X → wordS x = true → Calls Tryz.prog 61 #[.slice a l.length cap, .string x] X fun e w' => e = .returned (.agg #[.int .i64 (joinC l x), .string (hmk (hjoinL (valsOf (lowS x) l)))]) ∧ Below X.heap.size X w') := fun h0 X x hb hx => by
    have := implJoin_any X a cap l x hl hcap (HI.out X hb).2.2 (HI.out X hb).1
    rw [joinT_word h0 hx] at this
    exact this
  generalize l.length = ln at *
  generalize fullC m h p l ns = fc at *
  generalize fullR m h p l ns = fr at *
  generalize keyR m h p l = kr at *
  generalize reqC m h p l = cc at *
  go_enter Tryz.func25, Tryz.ntmps25
  go_wp2_with fail
  rw [← HW.out]
  refine C.mono ?_
  rintro e w1 ⟨rfl, hb1⟩
  obtain ⟨V, hV⟩ : ∃ V, V = w1.alloc (.cells #[.int .i64 cc, .string kr] 50) := ⟨_, rfl⟩
  have HV : Hid (V = w1.alloc (.cells #[.int .i64 cc, .string kr] 50)) := hV
  have aV : Below w1.heap.size w1 V := by rw [hV]; exact (Below.refl _ _).alloc (Nat.le_refl _) _
  have tV : Two V w1.heap.size (.int .i64 cc) (.string kr) := by rw [hV]; exact Two.new _ _ _ _
  have b1 := K0.out.1.trans (hb1.mono K0.out.1.size)
  have K1 : Hid (Below w.heap.size w V ∧ Four V w.heap.size (.string m) (.string h) (.string p) (.slice a ln cap) ∧ Two V (w.heap.size + 1) (.int .i64 0) (.string ⟨#[]⟩) ∧ Two V w1.heap.size (.int .i64 cc) (.string kr)) := ⟨b1.trans (aV.mono b1.size), (K0.out.2.1.keep hb1).keep aV, (K0.out.2.2.keep hb1).keep aV, tV⟩
  have hB5 : w.heap.size + 1 < w1.heap.size := (K0.out.2.2.keep hb1).lt
  clear C hb1 K0 HW hc3 hV aV tV b1
  obtain ⟨d0, d1, df, _⟩ := K1.out.2.2.2
  obtain ⟨r0, r1, rf, _⟩ := K1.out.2.2.1
  have rf0 := rf 0
  have rf1 := rf 1
  have HB5 : Hid (w.heap.size + 1 < w1.heap.size) := hB5
  clear rf df hB5
  by_cases c0 : cc = 0
  · subst c0
    obtain ⟨k1, k2, hc0⟩ := HCC.out.2.2.2 rfl
    have HK : Hid (kr.data.toList = fullL h p l (ns.take 0)) := k1
    have HJ2 := HJ.out hc0
    have HJW : Hid (∀ X (x : ByteArray), Below w.heap.size w X → wordS x = true → Calls Tryz.prog 61 #[.slice a ln cap, .string x] X fun e w' => e = .returned (.agg #[.int .i64 (joinC l x), .string (hmk (hjoinL (valsOf (lowS x) l)))]) ∧ Below X.heap.size X w') := HJ2
    have HL0 : Hid (headsC l = 0) := hc0
    have HNB : Hid (¬ namesC ns = 0 → fc = namesC ns ∧ fr = ⟨#[]⟩) := HCC.out.2.1 rfl
    have HNO : Hid (namesC ns = 0 → fc = 0 ∧ fr = hmk (fullL h p l ns)) := HCC.out.2.2.1 rfl
    clear HCC HJ HJ2 k1 hc0
    by_cases h4 : 4 < ns.length
    · have HR : Hid (fc = 2 ∧ fr = ⟨#[]⟩) := by
        have e := namesC_many h4
        have := HNB.out (by rw [e]; omega)
        rw [e] at this
        exact this
      have g4 : (4 : Int) < ns.length := by omega
      clear HNB HNO HJW HI
      generalize ns.length = n at *
      rw [HV.out] at d0 d1 r0 r1 rf0 rf1
      go_wp2_with fail
      rw [← HV.out]
      have T2 := two_put (v0 := .int .i64 2) (v1 := .string ⟨#[]⟩) K1.out.2.2.1
      exact bodyPost_ret (v := .agg #[.int .i64 2, .string ⟨#[]⟩]) (by simp [results, Tryz.results25, go_sem, T2.c0, T2.c1]) rfl ⟨by rw [HR.out.1, HR.out.2], (K1.out.1.setCell (by simp) _).setCell (by simp) _⟩
    · have HBAD : Hid (wordsA ns = false → fc = 5 ∧ fr = ⟨#[]⟩) := fun hw => by
        have e := namesC_bad h4 hw
        have := HNB.out (by rw [e]; omega)
        rw [e] at this
        exact this
      have HOK : Hid (wordsA ns = true → fc = 0 ∧ fr = hmk (fullL h p l ns)) := fun hw => HNO.out (namesC_ok h4 hw)
      have g4 : ¬ (4 : Int) < ns.length := by omega
      have K2 : Hid (FLoop w m h p (.slice a ln cap) w1.heap.size kr V) := ⟨K1.out.2.2.2, K1.out.2.2.1, K1.out.2.1, K1.out.1⟩
      have hn4 : ns.length ≤ 4 := by omega
      clear HNB HNO K1
      generalize hnn : ns.length = n at *
      have HN : Hid (ns.length = n) := hnn
      clear hnn
      rw [HV.out] at d0 d1 r0 r1 rf0 rf1
      go_wp2_with fail
      rw [← HV.out]
      clear d0 d1 r0 r1 rf0 rf1 HV
      generalize w1.heap.size = B5 at *
      go_loopw [20] (fun i wr => ∃ (k : Nat) (o : ByteArray), k ≤ n ∧ i = .int .i64 k ∧ o.data.toList = fullL h p l (ns.take k) ∧ o.size ≤ 500 + k * 4200 ∧ (∀ (j : Nat) x, j < k → ns[j]? = some x → wordS x = true) ∧ FLoop w m h p (.slice a ln cap) B5 o wr) (fun i _ => n - (intOf i).toNat)
      case atStart => exact ⟨0, kr, Nat.zero_le _, rfl, HK.out, by omega, fun j x hj _ => absurd hj (by omega), K2.out⟩
      case round =>
        obtain ⟨k, o, hk, rfl, ho, hos, hwd, hF⟩ := hrel
        have HO : Hid (o.data.toList = fullL h p l (ns.take k)) := ho
        have HWD : Hid (∀ (j : Nat) x, j < k → ns[j]? = some x → wordS x = true) := hwd
        have HF : Hid (FLoop w m h p (.slice a ln cap) B5 o wr) := hF
        have hos2 : o.size ≤ 20000 := by omega
        clear ho hwd hF HK K2 k2
        by_cases hlt : k < n
        · obtain ⟨x, hx⟩ : ∃ r, ns[k]? = some r := ⟨ns[k]'(by have := HN.out; omega), List.getElem?_eq_getElem _⟩
          have HX : Hid (ns[k]? = some x) := hx
          rcases (HI.out wr HF.out.bel).2.1 with hh | ⟨b, off, rfl, hat⟩
          · subst hh; simp at hx
          have p1 := hat k x hx
          have C := implIsWord_set x wr (HI.out wr HF.out.bel).2.2
          have gk : (k : Int) < n := by omega
          clear hx hat
          by_cases hw : wordS x = true
          · rw [hw] at C
            have hxm := hword_max hw
            have HT : Hid (fullL h p l (ns.take (k + 1)) = addN l (fullL h p l (ns.take k)) x) := fullL_take HX.out
            have hjl := hjoin_len HL0.out (lowS x)
            have HJX : Hid (∀ X, Below w.heap.size w X → Calls Tryz.prog 61 #[.slice a ln cap, .string x] X fun e w' => e = .returned (.agg #[.int .i64 (joinC l x), .string (hmk (hjoinL (valsOf (lowS x) l)))]) ∧ Below X.heap.size X w') := fun X hb => HJW.out X x hb hw
            obtain ⟨jt, hjt⟩ : ∃ j : ByteArray, j = hmk (hjoinL (valsOf (lowS x) l)) := ⟨_, rfl⟩
            have sjt : jt.size ≤ 4040 := by rw [hjt, hmk_size]; exact hjl
            rw [← hjt] at HJX
            have HSN : Hid (∀ X, Calls Tryz.prog 60 #[.string x] X fun e w' => e = .returned (.string (lowS x)) ∧ Below X.heap.size X w') := fun X => smallName_any x X (by omega)
            have slw : (lowS x).size ≤ 64 := by rw [lowS_size]; exact hxm
            obtain ⟨lw, hlw⟩ : ∃ lw, lw = lowS x := ⟨_, rfl⟩
            rw [← hlw] at slw HSN
            have lit1 : (⟨#[32]⟩ : ByteArray).size = 1 := rfl
            have lit2 : (⟨#[61]⟩ : ByteArray).size = 1 := rfl
            obtain ⟨y1, hy1⟩ : ∃ y : ByteArray, y = ⟨#[32]⟩ ++ lw := ⟨_, rfl⟩
            have s1 : y1.size = 1 + lw.size := by rw [hy1, ByteArray.size_append, lit1]
            obtain ⟨y2, hy2⟩ : ∃ y : ByteArray, y = y1 ++ ⟨#[61]⟩ := ⟨_, rfl⟩
            have s2 : y2.size = y1.size + 1 := by rw [hy2, ByteArray.size_append, lit2]
            obtain ⟨y3, hy3⟩ : ∃ y : ByteArray, y = y2 ++ jt := ⟨_, rfl⟩
            have s3 : y3.size = y2.size + jt.size := by rw [hy3, ByteArray.size_append]
            obtain ⟨y4, hy4⟩ : ∃ y : ByteArray, y = o ++ y3 := ⟨_, rfl⟩
            have s4 : y4.size = o.size + y3.size := by rw [hy4, ByteArray.size_append]
            have a1 : ∀ X, (Op.stringOp .add ⟨#[32]⟩ lw).run Tryz.prog X = .ok (.string y1) X := fun X => by rw [hy1]; exact run_string_add_sum X _ _ (by omega)
            have a2 : ∀ X, (Op.stringOp .add y1 ⟨#[61]⟩).run Tryz.prog X = .ok (.string y2) X := fun X => by rw [hy2]; exact run_string_add_sum X _ _ (by omega)
            have a3 : ∀ X, (Op.stringOp .add y2 jt).run Tryz.prog X = .ok (.string y3) X := fun X => by rw [hy3]; exact run_string_add_sum X _ _ (by omega)
            have a4 : ∀ X, (Op.stringOp .add o y3).run Tryz.prog X = .ok (.string y4) X := fun X => by rw [hy4]; exact run_string_add_sum X _ _ (by omega)
            have HR : Hid (y4.data.toList = fullL h p l (ns.take (k + 1)) ∧ y4.size ≤ 500 + (k + 1) * 4200) := by
              refine ⟨?_, by omega⟩
              rw [HT.out, addN, hy4, hy3, hy2, hy1, happ_list, happ_list, happ_list, happ_list, HO.out, hjt, hlw, hmk_list]
              simp
            have HWD2 : Hid (∀ (j : Nat) z, j < k + 1 → ns[j]? = some z → wordS z = true) := fun j z hj hz => by
              by_cases e : j = k
              · subst e
                rw [HX.out] at hz
                obtain rfl := Option.some.inj hz
                exact hw
              · exact HWD.out j z (by omega) hz
            clear hjt hlw lit1 lit2 hy1 hy2 hy3 hy4 s1 s2 s3 s4 HT hw hjl HJW HWD HX HBAD HOK HO
            generalize joinC l x = jc at *
            go_wp2_with fail
            refine C.mono ?_
            rintro e w2 ⟨rfl, hb2⟩
            have HF2 : Hid (FLoop w m h p (.slice a ln cap) B5 o w2) := HF.out.keep hb2
            clear C hb2 HF p1
            have KP : Hid (∀ X, Below w2.heap.size w2 X → X.cell? ⟨B5, 1, none⟩ = some (.string o) ∧ X.cell? ⟨w.heap.size, 3, none⟩ = some (.slice a ln cap) ∧ X.frozen? ⟨B5, 1, none⟩ = false) := fun X hb => ⟨(HF2.out.keep hb).two.c1, (HF2.out.keep hb).four.c3, (HF2.out.keep hb).two.fr 1⟩
            have KB : Hid (∀ X, Below w2.heap.size w2 X → Below w.heap.size w X) := fun X hb => (HF2.out.keep hb).bel
            have KZ : Hid (∀ X, Below w2.heap.size w2 X → FLoop w m h p (.slice a ln cap) B5 y4 (X.setCell ⟨B5, 1, none⟩ (.string y4))) := fun X hb => (HF2.out.keep hb).put HB5.out y4
            have B0 : Hid (Below w2.heap.size w2 w2.drew) := (Below.refl _ _).drew
            obtain ⟨g1, g3, gf⟩ := KP.out w2 (Below.refl _ _)
            have hft := f_field_text
            clear HF2
            go_wp2_with fail
            go_region_with (first
              | (go_at_call 60; refine (HSN.out _).mono ?_; rintro e wa ⟨rfl, hba⟩; (first | have BA : Hid (Below w2.heap.size w2 wa) := BJ.out.trans (hba.mono BJ.out.size) | have BA : Hid (Below w2.heap.size w2 wa) := B0.out.trans (hba.mono B0.out.size)); clear hba; obtain ⟨ga1, ga3, gaf⟩ := KP.out _ BA.out)
              | (go_at_call 61; (first | refine (HJX.out _ (KB.out _ BA.out)).mono ?_ | refine (HJX.out _ (KB.out _ B0.out)).mono ?_); rintro e wj ⟨rfl, hbj⟩; (first | have BJ : Hid (Below w2.heap.size w2 wj) := BA.out.trans (hbj.mono BA.out.size) | have BJ : Hid (Below w2.heap.size w2 wj) := B0.out.trans (hbj.mono B0.out.size)); clear hbj; obtain ⟨gj1, gj3, gjf⟩ := KP.out _ BJ.out))
            all_goals
              (go_wp2_with fail
               go_roundw
               case rel => first | exact ⟨k + 1, y4, by omega, by go_num, HR.out.1, HR.out.2, HWD2.out, KZ.out _ BA.out⟩ | exact ⟨k + 1, y4, by omega, by go_num, HR.out.1, HR.out.2, HWD2.out, KZ.out _ BJ.out⟩
               case measure => simp [intOf]; omega)
          · have hwf : wordS x = false := by simpa using hw
            rw [hwf] at C
            have HR : Hid (fc = 5 ∧ fr = ⟨#[]⟩) := HBAD.out (wordsA_not HX.out hwf)
            clear hw hwf HBAD HOK HJW HX HWD HO
            go_wp2_with fail
            refine C.mono ?_
            rintro e w2 ⟨rfl, hb2⟩
            have HF2 : Hid (FLoop w m h p (.slice a ln cap) B5 o w2) := HF.out.keep hb2
            clear C hb2 HF p1
            obtain ⟨r0, r1, rf, _⟩ := HF2.out.res
            have rf0 := rf 0
            have rf1 := rf 1
            clear rf
            go_wp2_with fail
            have T2 := two_put (v0 := .int .i64 5) (v1 := .string ⟨#[]⟩) HF2.out.res
            exact bodyPost_ret (v := .agg #[.int .i64 5, .string ⟨#[]⟩]) (by simp [results, Tryz.results25, go_sem, T2.c0, T2.c1]) rfl ⟨by rw [HR.out.1, HR.out.2], (HF2.out.bel.setCell (by simp) _).setCell (by simp) _⟩
        · have hall : wordsA ns = true := wordsA_of fun j x hx => HWD.out j x (by have := (List.getElem?_eq_some_iff.1 hx).1; have := HN.out; omega) hx
          have ek : ns.take k = ns := List.take_of_length_le (by have := HN.out; omega)
          have HR : Hid (fc = 0 ∧ fr = o) := by
            obtain ⟨e1, e2⟩ := HOK.out hall
            refine ⟨e1, ?_⟩
            rw [e2]
            symm
            refine hof_list ?_
            rw [HO.out, ek]
          clear hall ek HBAD HOK HO HWD HJW
          obtain ⟨r0, r1, rf, _⟩ := HF.out.res
          have rf0 := rf 0
          have rf1 := rf 1
          clear rf
          obtain ⟨d0, d1, _, _⟩ := HF.out.two
          have gk : ¬ (k : Int) < n := by omega
          go_wp2_with fail
          have T2 := two_put (v0 := .int .i64 0) (v1 := .string o) HF.out.res
          exact bodyPost_ret (v := .agg #[.int .i64 0, .string o]) (by simp [results, Tryz.results25, go_sem, T2.c0, T2.c1]) rfl ⟨by rw [HR.out.1, HR.out.2], (HF.out.bel.setCell (by simp) _).setCell (by simp) _⟩
  · have HR : Hid (fc = cc ∧ fr = kr) := by
      obtain ⟨e1, e2, e3⟩ := HCC.out.1 c0
      exact ⟨e1, by rw [e2, e3]⟩
    clear HCC HJ HI
    generalize ns.length = n at *
    rw [HV.out] at d0 d1 r0 r1 rf0 rf1
    go_wp2_with fail
    rw [← HV.out]
    have T2 := two_put (v0 := .int .i64 cc) (v1 := .string kr) K1.out.2.2.1
    exact bodyPost_ret (v := .agg #[.int .i64 cc, .string kr]) (by simp [results, Tryz.results25, go_sem, T2.c0, T2.c1]) rfl ⟨by rw [HR.out.1, HR.out.2], (K1.out.1.setCell (by simp) _).setCell (by simp) _⟩
end Go.Proofs.YtonnggelpjjmmaaGreatDoor
/-
  The law of keys, out of contracts.
-/
namespace Go.Proofs.YtonnggelpjjmmaaGreatDoor
open Go.ChangeShapes Go.WideShapes Go.ChangeAt Go.RowKit Go.Sort
namespace keys
theorem tfield_code (c : Int) (t : ByteArray) (w : World) : (Instr.field 50 (.agg #[.int .i64 c, .string t]) 0).run Tryz.prog w = .ok (.int .i64 c) w := by kernel_rfl
theorem tfield_text (c : Int) (t : ByteArray) (w : World) : (Instr.field 50 (.agg #[.int .i64 c, .string t]) 1).run Tryz.prog w = .ok (.string t) w := by kernel_rfl
structure TR (w : World) (b : Nat) (c : Int) (t : ByteArray) : Prop where
  c0 : w.cell? ⟨b, 0, none⟩ = some (.int .i64 c)
  c1 : w.cell? ⟨b, 1, none⟩ = some (.string t)
theorem TR.keep {w w' : World} {b : Nat} {c : Int} {t : ByteArray} (h : TR w b c t) (hb : Below w.heap.size w w') : TR w' b c t :=
  ⟨by rw [hb.cell (p := ⟨b, 0, none⟩) (block_lt_of_cell h.c0), h.c0], by rw [hb.cell (p := ⟨b, 1, none⟩) (block_lt_of_cell h.c1), h.c1]⟩
theorem tr_new (w : World) (c : Int) (s : ByteArray) (t : TypeId) : TR (w.alloc (.cells #[.int .i64 c, .string s] t)) w.heap.size c s := ⟨by simp, by simp⟩
theorem RqB.keep {w w' : World} {R : Nat} {m h p : ByteArray} {hv : Value} (k : RqB w R m h p hv) (hb : Below w.heap.size w w') : RqB w' R m h p hv := k.of (hb.block R k.lt)
/-- The drawn request and the drawn names, wherever the world stands. -/
structure FK (w : World) (va : Option Addr) (L : List Hdr) (na : Option Addr) (T : List ByteArray) (X : World) : Prop where
  b : Below w.heap.size w X
  hi : HdsIn X va L
  ti : TIn X na T
theorem FK.keep {w : World} {va : Option Addr} {L : List Hdr} {na : Option Addr} {T : List ByteArray} {X Y : World} (h : FK w va L na T X) (hb : Below X.heap.size X Y) : FK w va L na T Y :=
  ⟨h.b.trans (hb.mono h.b.size), h.hi.keep hb, h.ti.keep hb⟩
theorem cut_text (a b : List UInt8) : (hmk (a ++ b)).extract ((hmk a).size : Int).toNat (hmk (a ++ b)).size = hmk b := by
  apply ByteArray.ext
  apply Array.ext'
  have h1 : (hmk a).size = a.length := by show a.toArray.size = _; simp
  have h2 : (hmk (a ++ b)).size = a.length + b.length := by show (a ++ b).toArray.size = _; simp
  rw [h1, h2]
  simp [hmk]
theorem head_text (a b : List UInt8) : (hmk (a ++ b)).extract 0 ((hmk a).size : Int).toNat = hmk a := by
  apply ByteArray.ext
  apply Array.ext'
  have h1 : (hmk a).size = a.length := by show a.toArray.size = _; simp
  rw [h1]
  simp [hmk]
theorem low_hmk (h : ByteArray) : hmk (lowS h).data.toList = lowS h := hmk_of _
set_option maxRecDepth 100000 in
set_option maxHeartbeats 16000000 in
theorem fnKeys_walk (E : Errs) (w : World) (a : Option Addr) (len cap : Nat) (hc : CodeRow w w.heap.size a len) (hset : SetIs w) (hE : ErrsIs w E) (hmax : MaxIs w) :
    Calls Tryz.prog 5 #[.slice a len cap] w fun e w' => e = .returned (.bool true) ∧ Below w.heap.size w w' := by
  have HENV : Hid (∀ W, Below w.heap.size w W → SetIs W ∧ ErrsIs W E ∧ MaxIs W) := fun W hb => ⟨hset.below hb, hE.below hb, hmax.below hb⟩
  clear hset hE hmax
  by_cases hbig : (1048576 : Int) < len
  · clear hc
    go_enter Tryz.func5, Tryz.ntmps5
    go_wp2
    go_ret
    exact ⟨rfl, Below.refl _ _⟩
  have hl2 : len ≤ 1048576 := by omega
  have HD := drawFullKey_any w a len cap hc hl2
  clear hc
  go_enter Tryz.func5, Tryz.ntmps5
  go_wp2_with (go_at_call 6; go_in)
  refine HD.mono ?_
  rintro e w1 ⟨⟨m, h, p, va, vc, L, na, nc, T, rfl, hm, hh, hp, ho, hL, _, hs, hT, _⟩, hb1⟩
  have hcap : L.length ≤ vc := by
    obtain ⟨_, h1 | ⟨g, c2, cur, e2, _, _, hc2, _⟩⟩ := ho
    · have := h1.2; omega
    · simp only [Value.slice.injEq] at e2
      rw [e2.2.2]; exact hc2
  have F1 : Hid (FK w va L na T w1) := by
    obtain ⟨va', vc', e1, hi⟩ := ho.at
    obtain ⟨na', nc', e2, ti⟩ := hs.tin
    simp only [Value.slice.injEq] at e1 e2
    refine ⟨hb1, by rw [e1.1]; exact hi, by rw [e2.1]; exact ti⟩
  clear ho hs hb1 HD
  have CF : Hid (∀ X h' p', FK w va L na T X → p'.size ≤ 1100 → Calls Tryz.prog 25 #[.agg #[.string m, .string h', .string p', .slice va L.length vc], .slice na T.length nc] X fun e w' => e = .returned (.agg #[.int .i64 (fullC m h' p' L T), .string (fullR m h' p' L T)]) ∧ Below X.heap.size X w') := fun X h' p' q hz => by
    obtain ⟨e1, e2, e3⟩ := HENV.out X q.b
    exact implFull_any E X m h' p' va vc L na nc T (by omega) hcap (by omega) (by omega) e1 e2 e3 q.hi q.ti
  have CS : Hid (∀ X h' p', FK w va L na T X → Calls Tryz.prog 26 #[.agg #[.string m, .string h', .string p', .slice va L.length vc], .slice na T.length nc] X fun e w' => e = .returned (.agg #[.int .i64 (fullC m h' p' L T), .string (fullR m h' p' L T)]) ∧ Below X.heap.size X w') := fun X h' p' q => specFull_any X m h' p' va vc L na nc T (by omega) (by omega) q.hi q.ti
  have CK : Hid (∀ X h' p', FK w va L na T X → p'.size ≤ 1100 → Calls Tryz.prog 27 #[.agg #[.string m, .string h', .string p', .slice va L.length vc]] X fun e w' => e = .returned (.agg #[.int .i64 (reqC m h' p' L), .string (keyR m h' p' L)]) ∧ Below X.heap.size X w') := fun X h' p' q hz => by
    obtain ⟨e1, e2, e3⟩ := HENV.out X q.b
    exact implKey_any E X m h' p' va vc L (by omega) hcap (by omega) e1 e2 e3 q.hi
  have CR : Hid (∀ X, FK w va L na T X → Calls Tryz.prog 11 #[.agg #[.string m, .string h, .string p, .slice va L.length vc]] X fun e w' => e = .returned (.int .i64 (reqC m h p L)) ∧ Below X.heap.size X w') := fun X q => specReq_any X m h p va vc L (by omega) q.hi
  clear HENV hcap hm
  obtain ⟨n, hn⟩ : ∃ n, Hid (L.length = n) := ⟨_, rfl⟩
  obtain ⟨tn, htn⟩ : ∃ n, Hid (T.length = n) := ⟨_, rfl⟩
  rw [hn.out] at CF CS CK CR
  rw [htn.out] at CF CS
  rw [hn.out, htn.out]
  rw [hn.out] at hL
  rw [htn.out] at hT
  clear hn htn
  obtain ⟨kc, hkc⟩ : ∃ c, Hid (fullC m h p L T = c) := ⟨_, rfl⟩
  obtain ⟨kt, hkt⟩ : ∃ c, Hid (fullR m h p L T = c) := ⟨_, rfl⟩
  obtain ⟨rc, hrc⟩ : ∃ c, Hid (reqC m h p L = c) := ⟨_, rfl⟩
  have al1 : Below w1.heap.size w1 (w1.alloc (.cells #[.string m, .string h, .string p, .slice va n vc] 26)) := (Below.refl _ _).alloc (Nat.le_refl _) _
  obtain ⟨v1, hv1⟩ : ∃ X, Hid (X = w1.alloc (.cells #[.string m, .string h, .string p, .slice va n vc] 26)) := ⟨_, rfl⟩
  have F2 : Hid (FK w va L na T v1 ∧ RqB v1 w1.heap.size m h p (.slice va n vc)) := by
    rw [hv1.out]
    exact ⟨F1.out.keep al1, RqB.new w1 m h p _⟩
  have H1 := CF.out v1 h p F2.out.1 hp
  rw [hkc.out, hkt.out] at H1
  clear F1 al1
  go_wp2_with fail
  rw [← hv1.out]
  clear hv1
  generalize w1.heap.size = R at *
  clear w1
  refine H1.mono ?_
  rintro e w2 ⟨rfl, hb2⟩
  have al2 : Below w2.heap.size w2 (w2.alloc (.cells #[.int .i64 kc, .string kt] 50)) := (Below.refl _ _).alloc (Nat.le_refl _) _
  obtain ⟨W, hW⟩ : ∃ X, Hid (X = w2.alloc (.cells #[.int .i64 kc, .string kt] 50)) := ⟨_, rfl⟩
  have F3 : Hid (FK w va L na T W ∧ RqB W R m h p (.slice va n vc) ∧ TR W w2.heap.size kc kt) := by
    rw [hW.out]
    exact ⟨(F2.out.1.keep hb2).keep al2, RqB.keep (RqB.keep F2.out.2 hb2) al2, tr_new w2 kc kt _⟩
  clear F2 hb2 al2 H1
  go_upto_region 5 with fail
  rw [← hW.out]
  clear hW
  generalize w2.heap.size = K at *
  clear w2 v1
  have HK : Hid (∀ X, Below W.heap.size W X → FK w va L na T X ∧ RqB X R m h p (.slice va n vc) ∧ TR X K kc kt) := fun X hb => ⟨F3.out.1.keep hb, RqB.keep F3.out.2.1 hb, F3.out.2.2.keep hb⟩
  clear F3
  go_cut [33] from 19 to 33 (fun s33 wx => s33 = .bool false ∧ Below W.heap.size W wx)
  case first =>
    have HKS : Hid (∀ X, Below W.heap.size W X → X.cell? ⟨R, 0, none⟩ = some (.string m) ∧ X.cell? ⟨R, 1, none⟩ = some (.string h) ∧ X.cell? ⟨R, 2, none⟩ = some (.string p) ∧ X.cell? ⟨R, 3, none⟩ = some (.slice va n vc) ∧ X.cell? ⟨K, 0, none⟩ = some (.int .i64 kc)) := fun X hb => ⟨(HK.out X hb).2.1.four.c0, (HK.out X hb).2.1.four.c1, (HK.out X hb).2.1.four.c2, (HK.out X hb).2.1.four.c3, (HK.out X hb).2.2.c0⟩
    have B0 : Hid (Below W.heap.size W W.drew) := (Below.refl _ _).drew
    have hf1 := tfield_code
    go_region_held3 (fun X => X.cell? ⟨R, 0, none⟩ = some (.string m) ∧ X.cell? ⟨R, 1, none⟩ = some (.string h) ∧ X.cell? ⟨R, 2, none⟩ = some (.string p) ∧ X.cell? ⟨R, 3, none⟩ = some (.slice va n vc) ∧ X.cell? ⟨K, 0, none⟩ = some (.int .i64 kc))
      (first | exact HKS.out _ BC.out | exact HKS.out _ BB.out | exact HKS.out _ BA.out | exact HKS.out _ B0.out)
      (first
      | (go_at_call 26; refine (CS.out _ h p (HK.out _ B0.out).1).mono ?_; rintro e wa ⟨rfl, hba⟩; rw [hkc.out, hkt.out]; have BA : Hid (Below W.heap.size W wa) := B0.out.trans (hba.mono B0.out.size); clear hba)
      | (go_at_call 27; refine (CK.out _ h p (HK.out _ BA.out).1 hp).mono ?_; rintro e wb ⟨rfl, hbb⟩; rw [hrc.out]; have BB : Hid (Below W.heap.size W wb) := BA.out.trans (hbb.mono BA.out.size); clear hbb)
      | (go_at_call 11; refine (CR.out _ (HK.out _ BB.out).1).mono ?_; rintro e wd ⟨rfl, hbd⟩; rw [hrc.out]; have BC : Hid (Below W.heap.size W wd) := BB.out.trans (hbd.mono BB.out.size); clear hbd))
    all_goals (go_wp2_with fail; go_meet; exact ⟨rfl, BC.out⟩)
  case rest =>
  obtain ⟨rfl, hbx⟩ := hcut
  have X1 : Hid (Below W.heap.size W wc) := hbx
  clear hbx
  generalize wc = w3 at *
  have k0 := (HK.out _ X1.out).2.2.c0
  by_cases h0 : ¬ kc = 0
  · have hn0 : (kc != 0) = true := by simpa using h0
    go_wp2_with fail
    go_ret
    exact ⟨rfl, (HK.out _ X1.out).1.b⟩
  obtain rfl : kc = 0 := Decidable.not_not.1 h0
  clear h0
  obtain ⟨hr0, hnm⟩ : reqC m h p L = 0 ∧ namesC T = 0 := by
    have := hkc.out
    unfold fullC at this
    split at this
    · rename_i hr; exact ⟨hr, this⟩
    · rename_i hr; exact absurd this hr
  have hh60 : h.size ≤ 60 := by
    have := (lineS_of (line_of_req hr0)).2.1
    simp only [hostS, Bool.and_eq_true, decide_eq_true_eq] at this
    exact this.1.2
  obtain ⟨rr, hrr⟩ := fullL_head h p L T
  obtain ⟨lh, hlh⟩ : ∃ x, Hid (lowS h = x) := ⟨_, rfl⟩
  obtain ⟨ap, hap⟩ : ∃ x, Hid (hmk (keyP p.data.toList) = x) := ⟨_, rfl⟩
  obtain ⟨pl, hpl⟩ : ∃ x, Hid (hmk (keyT h p) = x) := ⟨_, rfl⟩
  have hapz : ap.size ≤ 1100 := by
    rw [← hap.out]
    have := keyP_len p.data.toList
    have e2 : p.data.toList.length = p.size := by simp
    show (keyP p.data.toList).toArray.size ≤ _
    rw [List.size_toArray]; omega
  have ekt : kt = hmk (keyT h p ++ rr) := by rw [← hkt.out, (fullC_ok hr0 hnm).2, hrr]
  have epl : pl = hmk ((lowS h).data.toList ++ keyP p.data.toList) := by rw [← hpl.out, keyT_eq]
  have elh : lh = hmk (lowS h).data.toList := by rw [← hlh.out, low_hmk]
  have hcut1 : pl.extract ((lh.size : Int).toNat) pl.size = ap := by rw [epl, elh, ← hap.out]; exact cut_text _ _
  have hcut2 : kt.extract 0 ((pl.size : Int).toNat) = pl := by rw [ekt, ← hpl.out]; exact head_text _ _
  have hz1 : lh.size ≤ pl.size := by
    rw [epl, elh]
    show (lowS h).data.toList.toArray.size ≤ ((lowS h).data.toList ++ keyP p.data.toList).toArray.size
    rw [List.size_toArray, List.size_toArray, List.length_append]; omega
  have hz2 : pl.size ≤ kt.size := by
    rw [ekt, ← hpl.out]
    show (keyT h p).toArray.size ≤ (keyT h p ++ rr).toArray.size
    rw [List.size_toArray, List.size_toArray, List.length_append]; omega
  have HR1 : Hid (reqC m lh p L = 0) := by rw [← hlh.out]; exact req_small hr0
  have HR2 : Hid (reqC m lh ap L = 0) := by rw [← hlh.out, ← hap.out]; exact req_again hr0
  have HT1 : Hid (fullC m lh p L T = 0 ∧ fullR m lh p L T = kt) := by
    refine ⟨(fullC_ok HR1.out hnm).1, ?_⟩
    rw [(fullC_ok HR1.out hnm).2, ← hlh.out, fullL_small, ← (fullC_ok hr0 hnm).2, hkt.out]
  have HT2 : Hid (fullC m lh ap L T = 0 ∧ fullR m lh ap L T = kt) := by
    refine ⟨(fullC_ok HR2.out hnm).1, ?_⟩
    rw [(fullC_ok HR2.out hnm).2, ← hlh.out, ← hap.out, fullL_again, ← (fullC_ok hr0 hnm).2, hkt.out]
  have HK0 : Hid (keyR m h p L = pl) := by show _ = _; rw [keyR_ok hr0, hpl.out]
  have HK2 : Hid (keyR m lh ap L = pl) := by show _ = _; rw [keyR_ok HR2.out, ← hlh.out, ← hap.out, keyT_again, hpl.out]
  have CL := fun X => implLower_any h X (by omega)
  rw [hlh.out] at CL
  have HRC : Hid (rc = 0) := by rw [← hrc.out]; exact hr0
  clear hrr ekt epl elh hlh hap hpl hr0 hnm hkc hkt hrc CR
  have al3 : Below w3.heap.size w3 (w3.alloc (.cells #[.string m, .string h, .string p, .slice va n vc] 26)) := (Below.refl _ _).alloc (Nat.le_refl _) _
  obtain ⟨v3, hv3⟩ : ∃ X, Hid (X = w3.alloc (.cells #[.string m, .string h, .string p, .slice va n vc] 26)) := ⟨_, rfl⟩
  have F3 : Hid (Below W.heap.size W v3 ∧ RqB v3 w3.heap.size m h p (.slice va n vc)) := by
    rw [hv3.out]
    exact ⟨X1.out.trans (al3.mono X1.out.size), RqB.new w3 m h p _⟩
  have hS : W.heap.size ≤ w3.heap.size := X1.out.size
  have r0 := (HK.out _ X1.out).2.1.four.c0
  have r1 := (HK.out _ X1.out).2.1.four.c1
  have r2 := (HK.out _ X1.out).2.1.four.c2
  have r3 := (HK.out _ X1.out).2.1.four.c3
  clear al3 X1
  go_upto_region 10 with fail
  rw [← hv3.out]
  clear hv3 k0 r0 r1 r2 r3
  generalize w3.heap.size = S at *
  clear w3
  have r1 := (HK.out _ F3.out.1).2.1.four.c1
  go_wp2_with fail
  refine (CL v3).mono ?_
  rintro e w4 ⟨rfl, hb4⟩
  have F4 : Hid (Below W.heap.size W w4 ∧ RqB w4 S m h p (.slice va n vc)) := ⟨F3.out.1.trans (hb4.mono F3.out.1.size), RqB.keep F3.out.2 hb4⟩
  clear hb4 F3 r1 CL
  clear v3
  have s1 := F4.out.2.four.c1
  have sf := F4.out.2.four.fr 1
  have hf0 := tfield_text 0 lh
  obtain ⟨w5, hw5⟩ : ∃ X, Hid (X = w4.setCell ⟨S, 1, none⟩ (.string lh)) := ⟨_, rfl⟩
  have F5 : Hid (Below W.heap.size W w5 ∧ RqB w5 S m lh p (.slice va n vc)) := by
    rw [hw5.out]
    exact ⟨F4.out.1.setCell (by show W.heap.size ≤ S; exact hS) _, F4.out.2.set1 lh⟩
  clear F4
  go_upto_region 11 with fail
  rw [← hw5.out]
  clear hw5 s1 sf hf0
  clear w4
  have r0 := (HK.out _ F5.out.1).2.1.four.c0
  have r1 := (HK.out _ F5.out.1).2.1.four.c1
  have r2 := (HK.out _ F5.out.1).2.1.four.c2
  have r3 := (HK.out _ F5.out.1).2.1.four.c3
  have H5 := CK.out w5 h p (HK.out _ F5.out.1).1 hp
  rw [HK0.out] at H5
  go_wp2_with fail
  refine H5.mono ?_
  rintro e w6 ⟨rfl, hb6⟩
  have F6 : Hid (Below W.heap.size W w6 ∧ RqB w6 S m lh p (.slice va n vc)) := ⟨F5.out.1.trans (hb6.mono F5.out.1.size), RqB.keep F5.out.2 hb6⟩
  clear hb6 F5 r0 r1 r2 r3 H5
  clear w5
  have hf0 := tfield_text (reqC m h p L) pl
  have s0 := F6.out.2.four.c0
  have s1 := F6.out.2.four.c1
  have s2 := F6.out.2.four.c2
  have s3 := F6.out.2.four.c3
  have g1 : ¬ (pl.size : Int) < lh.size := by omega
  have al6 : Below w6.heap.size w6 (w6.alloc (.cells #[.string m, .string lh, .string p, .slice va n vc] 26)) := (Below.refl _ _).alloc (Nat.le_refl _) _
  obtain ⟨v6, hv6⟩ : ∃ X, Hid (X = w6.alloc (.cells #[.string m, .string lh, .string p, .slice va n vc] 26)) := ⟨_, rfl⟩
  have F7 : Hid (Below W.heap.size W v6 ∧ RqB v6 S m lh p (.slice va n vc) ∧ RqB v6 w6.heap.size m lh p (.slice va n vc)) := by
    rw [hv6.out]
    exact ⟨F6.out.1.trans (al6.mono F6.out.1.size), RqB.keep F6.out.2 al6, RqB.new w6 m lh p _⟩
  have hA : W.heap.size ≤ w6.heap.size := F6.out.1.size
  have hSA : S ≠ w6.heap.size := by have := F6.out.2.lt; omega
  clear al6 F6
  go_upto_region 15 with fail
  rw [← hv6.out]
  clear hv6 s0 s1 s2 s3 hf0 g1
  generalize w6.heap.size = G at *
  clear w6
  have s1 := F7.out.2.1.four.c1
  have q2 := F7.out.2.2.four.c2
  have qf := F7.out.2.2.four.fr 2
  have hs1 := fun w => run_slice_string_l (P := Tryz.prog) w 9 pl Tryz.underlying9 .i64 (lh.size : Int) (by omega) (by omega)
  rw [hcut1] at hs1
  obtain ⟨w7, hw7⟩ : ∃ X, Hid (X = v6.setCell ⟨G, 2, none⟩ (.string ap)) := ⟨_, rfl⟩
  have F8 : Hid (Below W.heap.size W w7 ∧ RqB w7 S m lh p (.slice va n vc) ∧ RqB w7 G m lh ap (.slice va n vc)) := by
    rw [hw7.out]
    exact ⟨F7.out.1.setCell (by show W.heap.size ≤ G; exact hA) _, F7.out.2.1.of (setCell_block (by show S ≠ G; exact hSA)), F7.out.2.2.set2 ap⟩
  clear F7
  go_upto_region 16 with fail
  rw [← hw7.out]
  clear hw7 s1 q2 qf hs1 hcut1
  clear v6
  have HKS : Hid (∀ X, Below w7.heap.size w7 X → X.cell? ⟨S, 0, none⟩ = some (.string m) ∧ X.cell? ⟨S, 1, none⟩ = some (.string lh) ∧ X.cell? ⟨S, 2, none⟩ = some (.string p) ∧ X.cell? ⟨S, 3, none⟩ = some (.slice va n vc) ∧ X.cell? ⟨G, 0, none⟩ = some (.string m) ∧ X.cell? ⟨G, 1, none⟩ = some (.string lh) ∧ X.cell? ⟨G, 2, none⟩ = some (.string ap) ∧ X.cell? ⟨G, 3, none⟩ = some (.slice va n vc) ∧ X.cell? ⟨K, 1, none⟩ = some (.string kt)) := fun X hb => by
    have a1 := (RqB.keep F8.out.2.1 hb).four
    have a2 := (RqB.keep F8.out.2.2 hb).four
    exact ⟨a1.c0, a1.c1, a1.c2, a1.c3, a2.c0, a2.c1, a2.c2, a2.c3, (HK.out X (F8.out.1.trans (hb.mono F8.out.1.size))).2.2.c1⟩
  have HFK : Hid (∀ X, Below w7.heap.size w7 X → FK w va L na T X) := fun X hb => (HK.out X (F8.out.1.trans (hb.mono F8.out.1.size))).1
  clear HK F8
  have B0 : Hid (Below w7.heap.size w7 w7.drew) := (Below.refl _ _).drew
  have hf1 := tfield_text
  have hs2 := fun w => run_slice_string_h (P := Tryz.prog) w 9 kt Tryz.underlying9 .i64 (pl.size : Int) (by omega) (by omega)
  rw [hcut2] at hs2
  have hge : decide ((pl.size : Int) ≤ (kt.size : Int)) = true := by simp; omega
  have hbe1 : (kt.toList == kt.toList) = true := by simp
  have hbe2 : (pl.toList == pl.toList) = true := by simp
  clear hcut2
  go_region_held3 (fun X => X.cell? ⟨S, 0, none⟩ = some (.string m) ∧ X.cell? ⟨S, 1, none⟩ = some (.string lh) ∧ X.cell? ⟨S, 2, none⟩ = some (.string p) ∧ X.cell? ⟨S, 3, none⟩ = some (.slice va n vc) ∧ X.cell? ⟨G, 0, none⟩ = some (.string m) ∧ X.cell? ⟨G, 1, none⟩ = some (.string lh) ∧ X.cell? ⟨G, 2, none⟩ = some (.string ap) ∧ X.cell? ⟨G, 3, none⟩ = some (.slice va n vc) ∧ X.cell? ⟨K, 1, none⟩ = some (.string kt))
    (first | exact HKS.out _ BC.out | exact HKS.out _ BB.out | exact HKS.out _ BA.out | exact HKS.out _ B0.out)
    (first
    | (go_at_call 25; refine (CF.out _ lh p (HFK.out _ B0.out) hp).mono ?_; rintro e wa ⟨rfl, hba⟩; rw [HT1.out.1, HT1.out.2]; have BA : Hid (Below w7.heap.size w7 wa) := B0.out.trans (hba.mono B0.out.size); clear hba)
    | (go_at_call 27; refine (CK.out _ lh ap (HFK.out _ BA.out) hapz).mono ?_; rintro e wb ⟨rfl, hbb⟩; rw [HR2.out, HK2.out]; have BB : Hid (Below w7.heap.size w7 wb) := BA.out.trans (hbb.mono BA.out.size); clear hbb)
    | (go_at_call 26; refine (CS.out _ lh ap (HFK.out _ BB.out)).mono ?_; rintro e wd ⟨rfl, hbd⟩; rw [HT2.out.1, HT2.out.2]; have BC : Hid (Below w7.heap.size w7 wd) := BB.out.trans (hbd.mono BB.out.size); clear hbd))
  all_goals (go_wp2_with fail; go_ret; exact ⟨rfl, (HFK.out _ BC.out).b⟩)
end keys
end Go.Proofs.YtonnggelpjjmmaaGreatDoor
/-
  As many variables are read as are named.
-/
namespace Go.Proofs.YtonnggelpjjmmaaGreatDoor
theorem trodVars_len {H : Type} {enc : TypeId × Value → H} {P : Program} {W : World} {sp : Nat → Bool} : ∀ {ns : List String} {gs : List (DataW H)} {ps : List MemPlace}, DataW.TrodVars enc P W sp ns gs ps → gs.length = ns.length
  | [], [], _, _ => rfl
  | [], _ :: _, _, h => h.elim
  | _ :: _, [], _, h => h.elim
  | n :: ns, d :: ds, ps, h => by
    obtain ⟨g, t, cs, fuel, p, q, h1, h2, h3, h4, hs, e⟩ := h
    simp [trodVars_len hs]
end Go.Proofs.YtonnggelpjjmmaaGreatDoor
