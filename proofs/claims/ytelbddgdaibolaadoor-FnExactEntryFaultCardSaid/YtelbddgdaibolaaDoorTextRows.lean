/-
  Rows of texts: the laws' own helpers over them.
-/
import Derived.Test.YtelbddgdaibolaaDoorHeadsTo
import Derived.Test.YtelbddgdaibolaaDoorRow
namespace Go.Proofs.YtelbddgdaibolaaDoor
open Go.ChangeShapes Go.WideShapes Go.ChangeAt Go.RowKit Go.Sort
def TAt (w : World) (b off : Nat) (l : List ByteArray) : Prop := ∀ (i : Nat) c, l[i]? = some c → w.cell? ⟨b, off + i, none⟩ = some (.string c)
theorem TAt.keep {w w' : World} {b off : Nat} {l : List ByteArray} (h : TAt w b off l) (hb : Below w.heap.size w w') : TAt w' b off l := by
  intro i c hc
  have := h i c hc
  rw [hb.cell (block_lt_of_cell this)]; exact this
def TIn (w : World) (a : Option Addr) (l : List ByteArray) : Prop := l = [] ∨ ∃ b off, a = some ⟨b, off, none⟩ ∧ TAt w b off l
theorem TIn.keep {w w' : World} {a : Option Addr} {l : List ByteArray} (h : TIn w a l) (hb : Below w.heap.size w w') : TIn w' a l := by
  rcases h with h | ⟨b, off, e, h⟩
  · exact .inl h
  · exact .inr ⟨b, off, e, h.keep hb⟩
structure TMine (W : World) (B : Nat) (l : List ByteArray) : Prop where
  at0 : TAt W B 0 l
  free : ∀ o, o < l.length → W.frozen? ⟨B, o, none⟩ = false
  lt : B < W.heap.size
theorem TMine.keep {W W' : World} {B : Nat} {l : List ByteArray} (h : TMine W B l) (hb : Below W.heap.size W W') : TMine W' B l :=
  ⟨h.at0.keep hb, fun o ho => by rw [hb.frozen (p := ⟨B, o, none⟩) h.lt]; exact h.free o ho, Nat.lt_of_lt_of_le h.lt hb.size⟩
theorem TMine.in {W : World} {B : Nat} {l : List ByteArray} (h : TMine W B l) : TIn W (some ⟨B, 0, none⟩) l := .inr ⟨B, 0, rfl, h.at0⟩
/-- How much room is left behind the texts; -1: none. -/
def szTs (left : Int) : List ByteArray → Int
  | [] => left
  | r :: l => if left - (r.size : Int) < 0 then -1 else szTs (left - (r.size : Int)) l
def szTL (left : Int) (l : List ByteArray) : Int := if left - (l.length : Int) < 0 then -1 else szTs (left - (l.length : Int)) l
theorem szTs_le (l : List ByteArray) : ∀ left, szTs left l ≤ left ∨ szTs left l = -1 := by
  induction l with
  | nil => intro left; exact .inl (Int.le_refl _)
  | cons r l ih =>
    intro left
    rw [szTs]
    split
    · exact .inr rfl
    · rcases ih (left - (r.size : Int)) with h | h
      · left; omega
      · exact .inr h
theorem szTL_room {left : Int} {l : List ByteArray} (hl : left ≤ 1048576) (hz : ¬ szTL left l < 0) : l.length ≤ 1048576 ∧ ∀ x ∈ l, x.size ≤ 1048576 := by
  unfold szTL at hz
  by_cases c : left - (l.length : Int) < 0
  · rw [if_pos c] at hz; omega
  · rw [if_neg c] at hz
    refine ⟨by omega, ?_⟩
    have : ∀ (l : List ByteArray) (left : Int), left ≤ 1048576 → ¬ szTs left l < 0 → ∀ x ∈ l, x.size ≤ 1048576 := fun l => by
      induction l with
      | nil => intro _ _ _ x hx; cases hx
      | cons r l ih =>
        intro left h1 h2 x hx
        rw [szTs] at h2
        by_cases c : left - (r.size : Int) < 0
        · rw [if_pos c] at h2; omega
        · rw [if_neg c] at h2
          rcases List.mem_cons.1 hx with rfl | hx
          · omega
          · exact ih _ (by omega) h2 x hx
    exact this l _ (by omega) hz
set_option maxHeartbeats 2000000 in
theorem szStringS_any (w : World) (a : Option Addr) (cap : Nat) (l : List ByteArray) (hl : l.length ≤ maxLen) (hi : TIn w a l) (hz : ∀ x ∈ l, x.size ≤ maxLen) (left : Int) (h0 : 0 ≤ left) (h1 : left ≤ 1048576) :
    Calls Tryd.prog 30 #[.slice a l.length cap, .int .i64 left] w fun e w' => e = .returned (.int .i64 (szTL left l)) ∧ Below w.heap.size w w' := by
  unfold maxLen at hl
  have HI : Hid (TIn w a l) := hi
  have HZ : Hid (∀ x ∈ l, x.size ≤ maxLen) := hz
  clear hi hz
  generalize hn : l.length = n at *
  have HN : Hid (l.length = n) := hn
  by_cases c0 : left - (n : Int) < 0
  · have HE : Hid (szTL left l = -1) := by show _ = _; unfold szTL; rw [hn, if_pos c0]
    clear hn
    go_enter Tryd.func30, Tryd.ntmps30
    go_wp2
    go_ret
    exact ⟨ret_int HE.out.symm, Below.refl _ _⟩
  have HE : Hid (szTL left l = szTs (left - (n : Int)) l) := by show _ = _; unfold szTL; rw [hn, if_neg c0]
  have c0' : 0 ≤ left - (n : Int) := by omega
  clear hn
  go_enter Tryd.func30, Tryd.ntmps30
  go_wp2_with fail
  go_loopw [1, 5] (fun x i wr => ∃ (k : Nat) (c : Int), k ≤ n ∧ i = .int .i64 k ∧ x = .int .i64 c ∧ 0 ≤ c ∧ c ≤ 1048576 ∧ szTL left l = szTs c (l.drop k) ∧ Below w.heap.size w wr) (fun _ i _ => n - (intOf i).toNat)
  case atStart => exact ⟨0, left - (n : Int), Nat.zero_le _, rfl, rfl, c0', by omega, HE.out, Below.refl _ _⟩
  case round =>
    obtain ⟨k, c, hk, rfl, rfl, c2, c3, hs, hb⟩ := hrel
    have HS : Hid (szTL left l = szTs c (l.drop k)) := hs
    clear hs HE
    by_cases hlt : k < n
    · obtain ⟨r, hr⟩ : ∃ r, l[k]? = some r := ⟨l[k]'(by have := HN.out; omega), List.getElem?_eq_getElem _⟩
      rcases HI.out with h | ⟨b, off, rfl, hat⟩
      · subst h; simp at hr
      have p1 := (hat.keep hb) k r hr
      have z1 := HZ.out r (List.mem_of_getElem? hr)
      have HS2 : Hid (szTL left l = if c - (r.size : Int) < 0 then -1 else szTs (c - (r.size : Int)) (l.drop (k + 1))) := by
        show _ = _
        obtain ⟨hk2, hr2⟩ := List.getElem?_eq_some_iff.1 hr
        rw [HS.out, List.drop_eq_getElem_cons hk2, hr2, szTs]
      have g : (k : Int) < n := by omega
      unfold maxLen at z1
      clear HS hr hat HI HZ
      by_cases hd : c - (r.size : Int) < 0
      · have HF : Hid (szTL left l = -1) := by show _ = _; rw [HS2.out, if_pos hd]
        clear HS2
        go_wp2_with fail
        go_ret
        exact ⟨ret_int HF.out.symm, hb⟩
      · have HF : Hid (szTL left l = szTs (c - (r.size : Int)) (l.drop (k + 1))) := by show _ = _; rw [HS2.out, if_neg hd]
        clear HS2
        go_wp2_with fail
        go_roundw
        case rel => exact ⟨k + 1, c - (r.size : Int), by omega, by go_num, rfl, by omega, by omega, HF.out, hb⟩
        case measure => simp [intOf]; omega
    · have HF : Hid (szTL left l = c) := by
        show _ = _
        rw [HS.out, List.drop_of_length_le (by have := HN.out; omega), szTs]
      clear HS
      go_wp2_with fail
      go_ret
      exact ⟨ret_int HF.out.symm, hb⟩
theorem infoTextR : (Tryd.prog.info? 9).map (fun i => (i.zero, i.size, i.bytes)) = some (some (.string ⟨#[]⟩), 1, 16) := by kernel_rfl
theorem TAt.put {w : World} {G : Nat} {l : List ByteArray} {k n : Nat} {c : ByteArray} (h : TAt w G 0 (l.take k)) (hr : l[k]? = some c) (hm : HRoom w G n) (hk : k < n) : TAt (w.setCell ⟨G, k, none⟩ (.string c)) G 0 (l.take (k + 1)) := by
  intro i q hq
  have hi : i < k + 1 := by
    have := (List.getElem?_eq_some_iff.1 hq).1
    simp at this; omega
  rw [List.getElem?_take_of_lt hi] at hq
  simp only [Nat.zero_add]
  by_cases e : i = k
  · subst e
    rw [hr] at hq
    obtain rfl := Option.some.inj hq
    obtain ⟨⟨u0, g0⟩, _⟩ := hm i (by omega)
    exact World.cell?_setCell_same _ _ _ g0
  · have hq2 : (l.take k)[i]? = some q := by rw [List.getElem?_take_of_lt (by omega)]; exact hq
    have a1 := h i q hq2
    simp only [Nat.zero_add] at a1
    rw [World.cell?_setCell_other _ _ _ _ (hoff_ne (by omega))]; exact a1
set_option maxHeartbeats 2000000 in
theorem toStringS_any (w : World) (a : Option Addr) (cap : Nat) (l : List ByteArray) (hl : l.length ≤ 1048576) (hi : TIn w a l) :
    Calls Tryd.prog 37 #[.slice a l.length cap] w fun e w' => e = .returned (.slice (some ⟨w.heap.size, 0, none⟩) l.length l.length) ∧ TMine w' w.heap.size l ∧ Below w.heap.size w w' := by
  have HI : Hid (TIn w a l) := hi
  obtain ⟨i0, hi0, hz0, hz1, hz2⟩ := info_parts infoTextR
  clear hi
  generalize hn : l.length = n at *
  have HN : Hid (l.length = n) := hn
  clear hn
  go_enter Tryd.func37, Tryd.ntmps37
  go_wp2_with (at_make; refine wpList_make_full w rfl _ _ 26 rfl w.heap.size 9 i0 _ 1 Tryd.underlying26 hi0 hz0 hz1 _ _ _ _ n rfl rfl rfl rfl (by rw [hz2]; omega) (by unfold maxLen; omega) (Nat.le_refl _) ?_; intro w1 hown hgrow)
  have HR1 : Hid (HRoom w1 w.heap.size n ∧ (w.heap.size < w1.heap.size ∧ ∀ o, w1.frozen? ⟨w.heap.size, o, none⟩ = false) ∧ Below w.heap.size w w1) := by
    refine ⟨fun j hj => ⟨?_, hown.frozenAt j⟩, ⟨?lt, fun o => hown.frozenAt o⟩, (Below.refl _ _).grown hgrow (Nat.le_refl _) (fun q hq => by cases hq)⟩
    case lt =>
      obtain ⟨_, h | ⟨g, c, cur, e, _, hh, _⟩⟩ := hown
      · cases h.1
      · simp only [Value.slice.injEq, Option.some.injEq] at e
        have e1 := congrArg Addr.block e.1
        simp only at e1
        rw [e1]
        exact (Array.getElem?_eq_some_iff.1 hh).1
    have h1 := hown.cellAt j (by omega)
    have h2 : j < (madeCells (Value.string ⟨#[]⟩).cells (n * 1)).toList.length := by have := hown.1; omega
    exact ⟨_, h1.trans (List.getElem?_eq_getElem h2)⟩
  clear hown hgrow
  go_loopw [4] (fun i wr => ∃ k : Nat, k ≤ n ∧ i = .int .i64 k ∧ TAt wr w.heap.size 0 (l.take k) ∧ HRoom wr w.heap.size n ∧ (w.heap.size < wr.heap.size ∧ ∀ o, wr.frozen? ⟨w.heap.size, o, none⟩ = false) ∧ Below w.heap.size w wr) (fun i _ => n - (intOf i).toNat)
  case atStart => exact ⟨0, Nat.zero_le _, rfl, fun i r hr => by simp at hr, HR1.out.1, HR1.out.2.1, HR1.out.2.2⟩
  case round =>
    obtain ⟨k, hk, rfl, hat, hroom, hfr, hb⟩ := hrel
    have HFR : Hid (w.heap.size < wr.heap.size ∧ ∀ o, wr.frozen? ⟨w.heap.size, o, none⟩ = false) := hfr
    clear hfr HR1
    by_cases hlt : k < n
    · obtain ⟨c, hr⟩ : ∃ r, l[k]? = some r := ⟨l[k]'(by have := HN.out; omega), List.getElem?_eq_getElem _⟩
      rcases HI.out with h | ⟨b, off, rfl, hsrc⟩
      · subst h; simp at hr
      have p1 := hsrc k c hr
      have hblt : b < w.heap.size := block_lt_of_cell p1
      have p2 : wr.cell? ⟨b, off + k, none⟩ = some (.string c) := by rw [hb.cell (p := ⟨b, off + k, none⟩) hblt]; exact p1
      obtain ⟨⟨u0, g0⟩, f0⟩ := hroom k (by omega)
      have HP : Hid (TAt (wr.setCell ⟨w.heap.size, k, none⟩ (.string c)) w.heap.size 0 (l.take (k + 1)) ∧ HRoom (wr.setCell ⟨w.heap.size, k, none⟩ (.string c)) w.heap.size n) := ⟨hat.put hr hroom hlt, hroom.set _ _⟩
      have g : (k : Int) < n := by omega
      have HB : Hid (Below w.heap.size w wr) := hb
      clear hat hroom hr hsrc p1 HI hb
      go_wp2_with fail
      go_roundw
      case rel => exact ⟨k + 1, by omega, by go_num, HP.out.1, HP.out.2, ⟨by simpa using HFR.out.1, fun o => by rw [World.frozen?_setCell]; exact HFR.out.2 o⟩, HB.out.setCell (Nat.le_refl _) _⟩
      case measure => simp [intOf]; omega
    · have HF : Hid (TMine wr w.heap.size l) := by
        have e : l.take k = l := List.take_of_length_le (by have := HN.out; omega)
        rw [e] at hat
        exact ⟨hat, fun o _ => HFR.out.2 o, HFR.out.1⟩
      clear hat hroom
      go_wp2_with fail
      go_ret
      exact ⟨rfl, HF.out, hb⟩
set_option maxHeartbeats 2000000 in
theorem eqStringS_same (w : World) (a1 a2 : Option Addr) (c1 c2 : Nat) (l : List ByteArray) (hl : l.length ≤ 1048576) (h1 : TIn w a1 l) (h2 : TIn w a2 l) :
    Calls Tryd.prog 44 #[.slice a1 l.length c1, .slice a2 l.length c2] w fun e w' => e = .returned (.bool true) ∧ Below w.heap.size w w' := by
  have H1 : Hid (TIn w a1 l) := h1
  have H2 : Hid (TIn w a2 l) := h2
  clear h1 h2
  generalize hn : l.length = n at *
  have HN : Hid (l.length = n) := hn
  clear hn
  go_enter Tryd.func44, Tryd.ntmps44
  go_wp2_with fail
  go_loopw [5] (fun i wr => ∃ k : Nat, k ≤ n ∧ i = .int .i64 k ∧ Below w.heap.size w wr) (fun i _ => n - (intOf i).toNat)
  case atStart => exact ⟨0, Nat.zero_le _, rfl, Below.refl _ _⟩
  case round =>
    obtain ⟨k, hk, rfl, hb⟩ := hrel
    by_cases hlt : k < n
    · obtain ⟨r, hr⟩ : ∃ r, l[k]? = some r := ⟨l[k]'(by have := HN.out; omega), List.getElem?_eq_getElem _⟩
      rcases H1.out with h | ⟨b1, o1, rfl, hs1⟩
      · subst h; simp at hr
      rcases H2.out with h | ⟨b2, o2, rfl, hs2⟩
      · subst h; simp at hr
      have p1 := (hs1.keep hb) k r hr
      have p2 := (hs2.keep hb) k r hr
      have x1 := cell_regrown p1
      have x2 := cell_regrown p2
      have g0 : (0 : Int) ≤ k := by omega
      have g : (k : Int) < n := by omega
      clear hr p1 p2 hs1 hs2 H1 H2
      go_wp2_with fail
      refine wp_region_quiet_below (by kernel_rfl) (by kernel_rfl) ?_
      repeat (go_big_quiet_step (first | fail))
      refine wpQuiet_nil ?_
      intro w2 hw2
      have hbb : Below w.heap.size w w2 := by
        obtain ⟨⟨d, os⟩, rfl⟩ := hw2
        exact hb.trans ((below_regrown wr d os).mono hb.size)
      clear x1 x2 hw2 hb
      go_wp2_with fail
      go_roundw
      case rel => exact ⟨k + 1, by omega, by go_num, hbb⟩
      case measure => simp [intOf]; omega
    · go_wp2_with fail
      go_ret
      exact ⟨rfl, hb⟩
end Go.Proofs.YtelbddgdaibolaaDoor
