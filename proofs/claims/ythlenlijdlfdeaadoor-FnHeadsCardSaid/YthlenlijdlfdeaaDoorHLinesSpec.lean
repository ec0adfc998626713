/-
  What the model's l4Lines answers.
-/
import Derived.Test.YthlenlijdlfdeaaDoorHReadPlain
import Derived.Test.YthlenlijdlfdeaaDoorStrRow
import Derived.Test.YthlenlijdlfdeaaDoorHFaultSpec
namespace Go.Proofs.YthlenlijdlfdeaaDoor
open Go.ChangeShapes Go.WideShapes Go.ChangeAt Go.RowKit
theorem u8_13 (x : UInt8) : x = 13 ↔ (x.toNat : Int) = 13 := by
  constructor
  · rintro rfl; rfl
  · intro h; exact UInt8.toNat_inj.1 (by simpa using (by omega : x.toNat = 13))
theorem u8_10 (x : UInt8) : x = 10 ↔ (x.toNat : Int) = 10 := by
  constructor
  · rintro rfl; rfl
  · intro h; exact UInt8.toNat_inj.1 (by simpa using (by omega : x.toNat = 10))
theorem u8_58 (x : UInt8) : x = 58 ↔ (x.toNat : Int) = 58 := by
  constructor
  · rintro rfl; rfl
  · intro h; exact UInt8.toNat_inj.1 (by simpa using (by omega : x.toNat = 58))
theorem hsize_list (s : ByteArray) : s.data.toList.length = s.size := by simp
theorem drop_get (s : ByteArray) (f k : Nat) (hf : f ≤ k) (hk : k < s.size) (h : k - f < (s.data.toList.drop f).length) : (s.data.toList.drop f)[k - f] = s[k] := by
  rw [List.getElem_drop]
  have e : f + (k - f) = k := by omega
  simp only [e]
  rfl
theorem hext_mk (s : ByteArray) (i j : Nat) : s.extract i j = hmk ((s.data.toList.drop i).take (j - i)) := by
  rw [Lib.extract_eq]; rfl
/-- The state of the walk over the text: O lines are found, the next one begins at f, k is looked at. -/
structure LnAt (s : ByteArray) (O : List (List UInt8)) (f k : Nat) : Prop where
  fk : f ≤ k
  ks : k ≤ s.size
  ol : O.length ≤ k
  eq : linesO s.data.toList = (linesO (s.data.toList.drop f)).map (O ++ ·)
  at' : k - f ≤ crAt (s.data.toList.drop f)
theorem LnAt.start (s : ByteArray) : LnAt s [] 0 0 := ⟨Nat.le_refl _, Nat.zero_le _, Nat.le_refl _, by simp, Nat.zero_le _⟩
theorem LnAt.hit {s : ByteArray} {O : List (List UInt8)} {f k : Nat} (h : LnAt s O f k) (hk : k + 1 < s.size) (h13 : s[k] = 13) (h10 : s[k + 1] = 10) : LnAt s (O ++ [(s.data.toList.drop f).take (k - f)]) (k + 2) (k + 2) := by
  have hl : (s.data.toList.drop f).length = s.size - f := by rw [List.length_drop, hsize_list]
  have hfk := h.fk
  have h1 := drop_get s f k h.fk (by omega) (by omega)
  have h2 := drop_get s f (k + 1) (by omega) hk (by omega)
  have e : k + 1 - f = k - f + 1 := by omega
  simp only [e] at h2
  have hc := (crAt_on _ (k - f) h.at' (by omega)).1 ⟨h1.trans h13, h2.trans h10⟩
  refine ⟨Nat.le_refl _, by omega, by simp; have := h.ol; omega, ?_, by omega⟩
  rw [h.eq, linesO_cut (by omega), hc, List.drop_drop, show f + (k - f + 2) = k + 2 from by omega, Option.map_map]
  congr 1
  funext x
  simp
theorem LnAt.on {s : ByteArray} {O : List (List UInt8)} {f k : Nat} (h : LnAt s O f k) (hk : k + 1 < s.size) (hn : ¬ (s[k] = 13 ∧ s[k + 1] = 10)) : LnAt s O f (k + 1) := by
  have hl : (s.data.toList.drop f).length = s.size - f := by rw [List.length_drop, hsize_list]
  have hfk := h.fk
  have h1 := drop_get s f k h.fk (by omega) (by omega)
  have h2 := drop_get s f (k + 1) (by omega) hk (by omega)
  have e : k + 1 - f = k - f + 1 := by omega
  simp only [e] at h2
  have hc := (crAt_on _ (k - f) h.at' (by omega)).2 (by rw [h1, h2]; exact hn)
  exact ⟨by omega, by omega, by have := h.ol; omega, h.eq, by omega⟩
theorem LnAt.done {s : ByteArray} {O : List (List UInt8)} {f k : Nat} (h : LnAt s O f k) (hk : ¬ k + 1 < s.size) : (f = s.size → linesO s.data.toList = some O) ∧ (f ≠ s.size → linesO s.data.toList = none) ∧ f ≤ s.size := by
  have hl : (s.data.toList.drop f).length = s.size - f := by rw [List.length_drop, hsize_list]
  have hfk := h.fk
  have hks := h.ks
  refine ⟨fun e => ?_, fun e => ?_, by omega⟩
  · rw [h.eq, List.drop_of_length_le (by rw [hsize_list]; omega), linesO_nil]
    simp
  · have h0 : ¬ s.data.toList.drop f = [] := fun x => by have := congrArg List.length x; rw [hl] at this; simp at this; omega
    have hc := crAt_end _ (k - f) h.at' (by omega)
    rw [h.eq, linesO_bad h0 (by omega)]
    rfl
theorem OwnS.shape {w : World} {base : Nat} {v : Value} {l : List ByteArray} (h : OwnS w base v l) : ∃ a c, v = .slice a l.length c ∧ ∀ (k : Nat) x, l[k]? = some x → ∃ g, a = some ⟨g, 0, none⟩ ∧ w.cell? ⟨g, k, none⟩ = some (.string x) := by
  have h0 := h
  obtain ⟨_, h1 | ⟨g, c, cur, rfl, _⟩⟩ := h
  · have e : l = [] := List.eq_nil_of_length_eq_zero h1.2
    exact ⟨none, 0, by rw [h1.1, e]; rfl, fun k x hx => by rw [e] at hx; simp at hx⟩
  · refine ⟨_, c, rfl, fun k x hx => ⟨g, rfl, ?_⟩⟩
    have hk := (List.getElem?_eq_some_iff.1 hx).1
    have := World.ownsRow.cellAt h0 k (by omega)
    rw [this]
    simp [textsW, hx]
theorem ownS_made0 (w : World) (base : Nat) (hb : base ≤ w.heap.size) : OwnS (w.alloc (.cells #[] 9)) base (.slice (some ⟨w.heap.size, 0, none⟩) 0 0) [] := World.ownsRow_made w #[] 0 hb (by unfold maxLen; omega) rfl
def LinesRes (s : ByteArray) (base : Nat) (e : Ending) (w : World) : Prop := ∃ v O ok, e = .returned (.tuple #[v, .bool ok]) ∧ OwnS w base v (O.map hmk) ∧ O.length ≤ 6000 ∧ (ok = true → linesO s.data.toList = some O) ∧ (ok = false → linesO s.data.toList = none)
theorem LinesRes.mk {s : ByteArray} {base : Nat} {w : World} {v : Value} {O : List (List UInt8)} {ok : Bool} (ho : OwnS w base v (O.map hmk)) (hl : O.length ≤ 6000) (h1 : ok = true → linesO s.data.toList = some O) (h2 : ok = false → linesO s.data.toList = none) : LinesRes s base (.returned (.tuple #[v, .bool ok])) w := ⟨v, O, ok, rfl, ho, hl, h1, h2⟩
set_option maxRecDepth 100000 in
set_option maxHeartbeats 8000000 in
theorem l4Lines_any (s : ByteArray) (w : World) (hs : s.size ≤ 6000) :
    Calls Tryd.prog 88 #[.string s] w fun e w' => LinesRes s w.heap.size e w' ∧ Below w.heap.size w w' := by
  go_enter Tryd.func88, Tryd.ntmps88
  go_wp2_with fail
  go_loopw [4, 5, 6] (fun v fr i wr => ∃ (O : List (List UInt8)) (f k : Nat), fr = .int .i64 (f : Int) ∧ i = .int .i64 (k : Int) ∧ LnAt s O f k ∧ OwnS wr w.heap.size v (O.map hmk) ∧ Below w.heap.size w wr) (fun _ _ i _ => s.size - (intOf i).toNat)
  case atStart => exact ⟨[], 0, 0, rfl, rfl, LnAt.start s, ownS_made0 w w.heap.size (Nat.le_refl _), (Below.refl _ _).alloc (Nat.le_refl _) _⟩
  case round =>
    obtain ⟨O, f, k, rfl, rfl, hL, ho, hb⟩ := hrel
    have HL : Hid (LnAt s O f k) := hL
    have HO : Hid (OwnS wr w.heap.size u4 (O.map hmk)) := ho
    have hfk := hL.fk
    have hks := hL.ks
    have hol := hL.ol
    have hzb := hb.size
    clear hL ho
    by_cases hlt : k + 1 < s.size
    · have g1 : (k : Int) + 1 < s.size := by omega
      have hk1 : k < s.size := by omega
      by_cases h13 : (s[k].toNat : Int) = 13
      · by_cases h10 : (s[k + 1].toNat : Int) = 10
        · have HN : Hid (LnAt s (O ++ [(s.data.toList.drop f).take (k - f)]) (k + 2) (k + 2)) := HL.out.hit hlt ((u8_13 _).2 h13) ((u8_10 _).2 h10)
          have d10 : ((s[k + 1].toNat : Int) == 10) = true := by simpa using h10
          have HE : Hid (s.extract f k = hmk ((s.data.toList.drop f).take (k - f))) := hext_mk s f k
          have HM : Hid ((O ++ [(s.data.toList.drop f).take (k - f)]).map hmk = O.map hmk ++ [s.extract f k]) := by show _ = _; rw [List.map_append, HE.out]; rfl
          have hml : (O.map hmk).length ≤ 6000 := by rw [List.length_map]; omega
          clear HL h10
          generalize O.map hmk = OM at *
          have gf0 : (0 : Int) ≤ f := by omega
          have gfk : (f : Int) ≤ k := by omega
          have gks : (k : Int) ≤ s.size := by omega
          go_wp2_with (at_builtin; refine wpList_append_str _ rfl (.tmp 26) (.tmp 31) rfl w.heap.size _ OM (s.extract f k) rfl rfl HO.out (by omega) hzb ?_; intro v4 w4 HO4 hb4 hz4)
          go_roundw
          case rel => exact ⟨_, k + 2, k + 2, by go_num, by go_num, HN.out, by rw [HM.out]; exact HO4, hb.trans hb4⟩
          case measure => simp [intOf]; omega
        · have HN : Hid (LnAt s O f (k + 1)) := HL.out.on hlt (fun e => h10 ((u8_10 _).1 e.2))
          have d10 : ((s[k + 1].toNat : Int) == 10) = false := by simpa using h10
          clear HL h10
          go_wp2_with fail
          go_roundw
          case rel => exact ⟨O, f, k + 1, rfl, by go_num, HN.out, HO.out, hb⟩
          case measure => simp [intOf]; omega
      · have HN : Hid (LnAt s O f (k + 1)) := HL.out.on hlt (fun e => h13 ((u8_13 _).1 e.1))
        have d13 : ((s[k].toNat : Int) == 13) = false := by simpa using h13
        clear HL
        go_wp2_with fail
        go_roundw
        case rel => exact ⟨O, f, k + 1, rfl, by go_num, HN.out, HO.out, hb⟩
        case measure => simp [intOf]; omega
    · have g1 : ¬ (k : Int) + 1 < s.size := by omega
      obtain ⟨d1, d2, d3⟩ := HL.out.done hlt
      have D1 : Hid (f = s.size → linesO s.data.toList = some O) := d1
      have D2 : Hid (f ≠ s.size → linesO s.data.toList = none) := d2
      have hO6 : O.length ≤ 6000 := by omega
      clear d1 d2 HL
      go_wp2_with fail
      go_ret2
      exact ⟨LinesRes.mk HO.out hO6 (fun e => D1.out (by simp at e; omega)) (fun e => D2.out (by simp at e; omega)), hb⟩
end Go.Proofs.YthlenlijdlfdeaaDoor
