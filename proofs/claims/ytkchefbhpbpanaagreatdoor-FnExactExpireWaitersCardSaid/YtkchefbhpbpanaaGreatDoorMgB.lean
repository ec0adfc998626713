/-
  Texts of one claim, one behind the other.
-/
import Derived.BigQuiet
import Derived.Deep.RegionWith
import Derived.DeepKeys4
import Derived.Laws.RangeAny
import Derived.Lay
import Derived.Lib.Join
import Derived.Lib.QuietBelow
import Derived.Lib.SlTrimSet
import Derived.Maps.Own
import Derived.Maps.OwnOps
import Derived.Maps.OwnSet
import Derived.Test.YtkchefbhpbpanaaGreatDoorMgA
/-
  Rows of texts: the laws' own helpers over them.
-/
namespace Go.Proofs.YtkchefbhpbpanaaGreatDoor
open Go.ChangeShapes Go.WideShapes Go.ChangeAt Go.RowKit Go.Sort
def TAt (w : World) (b off : Nat) (l : List ByteArray) : Prop := ∀ (i : Nat) c, l[i]? = some c → w.cell? ⟨b, off + i, none⟩ = some (.string c)
theorem TAt.keep {w w' : World} {b off : Nat} {l : List ByteArray} (h : TAt w b off l) (hb : Below w.heap.size w w') : TAt w' b off l := by
  intro i c hc
  have := h i c hc
  rw [hb.cell (block_lt_of_cell this)]; exact this
def TIn (w : World) (a : Option Addr) (l : List ByteArray) : Prop := l = [] ∨ ∃ b off, a = some ⟨b, off, none⟩ ∧ TAt w b off l
theorem TIn.keep {w w' : World} {a : Option Addr} {l : List ByteArray} (h : TIn w a l) (hb : Below w.heap.size w w') : TIn w' a l := by
  rcases h with h | ⟨b, off, e, h⟩
  · exact .inl h
  · exact .inr ⟨b, off, e, h.keep hb⟩
structure TMine (W : World) (B : Nat) (l : List ByteArray) : Prop where
  at0 : TAt W B 0 l
  free : ∀ o, o < l.length → W.frozen? ⟨B, o, none⟩ = false
  lt : B < W.heap.size
theorem TMine.keep {W W' : World} {B : Nat} {l : List ByteArray} (h : TMine W B l) (hb : Below W.heap.size W W') : TMine W' B l :=
  ⟨h.at0.keep hb, fun o ho => by rw [hb.frozen (p := ⟨B, o, none⟩) h.lt]; exact h.free o ho, Nat.lt_of_lt_of_le h.lt hb.size⟩
theorem TMine.in {W : World} {B : Nat} {l : List ByteArray} (h : TMine W B l) : TIn W (some ⟨B, 0, none⟩) l := .inr ⟨B, 0, rfl, h.at0⟩
/-- How much room is left behind the texts; -1: none. -/
def szTs (left : Int) : List ByteArray → Int
  | [] => left
  | r :: l => if left - (r.size : Int) < 0 then -1 else szTs (left - (r.size : Int)) l
def szTL (left : Int) (l : List ByteArray) : Int := if left - (l.length : Int) < 0 then -1 else szTs (left - (l.length : Int)) l
theorem szTs_le (l : List ByteArray) : ∀ left, szTs left l ≤ left ∨ szTs left l = -1 := by
  induction l with
  | nil => intro left; exact .inl (Int.le_refl _)
  | cons r l ih =>
    intro left
    rw [szTs]
    split
    · exact .inr rfl
    · rcases ih (left - (r.size : Int)) with h | h
      · left; omega
      · exact .inr h
theorem szTL_room {left : Int} {l : List ByteArray} (hl : left ≤ 1048576) (hz : ¬ szTL left l < 0) : l.length ≤ 1048576 ∧ ∀ x ∈ l, x.size ≤ 1048576 := by
  unfold szTL at hz
  by_cases c : left - (l.length : Int) < 0
  · rw [if_pos c] at hz; omega
  · rw [if_neg c] at hz
    refine ⟨by omega, ?_⟩
    have : ∀ (l : List ByteArray) (left : Int), left ≤ 1048576 → ¬ szTs left l < 0 → ∀ x ∈ l, x.size ≤ 1048576 := fun l => by
      induction l with
      | nil => intro _ _ _ x hx; cases hx
      | cons r l ih =>
        intro left h1 h2 x hx
        rw [szTs] at h2
        by_cases c : left - (r.size : Int) < 0
        · rw [if_pos c] at h2; omega
        · rw [if_neg c] at h2
          rcases List.mem_cons.1 hx with rfl | hx
          · omega
          · exact ih _ (by omega) h2 x hx
    exact this l _ (by omega) hz
theorem infoTextR : (Tryz.prog.info? 9).map (fun i => (i.zero, i.size, i.bytes)) = some (some (.string ⟨#[]⟩), 1, 16) := by kernel_rfl
theorem TAt.put {w : World} {G : Nat} {l : List ByteArray} {k n : Nat} {c : ByteArray} (h : TAt w G 0 (l.take k)) (hr : l[k]? = some c) (hm : HRoom w G n) (hk : k < n) : TAt (w.setCell ⟨G, k, none⟩ (.string c)) G 0 (l.take (k + 1)) := by
  intro i q hq
  have hi : i < k + 1 := by
    have := (List.getElem?_eq_some_iff.1 hq).1
    simp at this; omega
  rw [List.getElem?_take_of_lt hi] at hq
  simp only [Nat.zero_add]
  by_cases e : i = k
  · subst e
    rw [hr] at hq
    obtain rfl := Option.some.inj hq
    obtain ⟨⟨u0, g0⟩, _⟩ := hm i (by omega)
    exact World.cell?_setCell_same _ _ _ g0
  · have hq2 : (l.take k)[i]? = some q := by rw [List.getElem?_take_of_lt (by omega)]; exact hq
    have a1 := h i q hq2
    simp only [Nat.zero_add] at a1
    rw [World.cell?_setCell_other _ _ _ _ (hoff_ne (by omega))]; exact a1
end Go.Proofs.YtkchefbhpbpanaaGreatDoor
/-
  Entries of a store, as they lie in memory.
-/
namespace Go.Proofs.YtkchefbhpbpanaaGreatDoor
open Go.ChangeShapes Go.WideShapes Go.ChangeAt Go.RowKit Go.Sort
/-- An entry, plainly. -/
structure Ent where
  key : ByteArray
  st : Int
  hs : List Hdr
  bl : List UInt8
  t : Int
  g : Int
  l : Int
  s : Int
  e : Int
  b1 : Bool
  b2 : Bool
  ts : List ByteArray
  pins : Int
/-- Where its lists lie. -/
structure EntR where
  ha : Option Addr
  hc : Nat
  ba : Option Addr
  bc : Nat
  ta : Option Addr
  tc : Nat
def entW (x : Ent) (r : EntR) : List Value := [.string x.key, .int .i64 x.st, .slice r.ha x.hs.length r.hc, .slice r.ba x.bl.length r.bc, .int .i64 x.t, .int .i64 x.g, .int .i64 x.l, .int .i64 x.s, .int .i64 x.e, .bool x.b1, .bool x.b2, .slice r.ta x.ts.length r.tc, .int .i64 x.pins]
def entV (x : Ent) (r : EntR) : Value := .agg (entW x r).toArray
/-- Its lists, in a world. -/
structure EntIn (w : World) (x : Ent) (r : EntR) : Prop where
  h : HdsIn w r.ha x.hs
  b : BIn w r.ba x.bl
  k : TIn w r.ta x.ts
  hc : x.hs.length ≤ r.hc
  bc : x.bl.length ≤ r.bc
  tc : x.ts.length ≤ r.tc
theorem EntIn.keep {w w' : World} {x : Ent} {r : EntR} (k : EntIn w x r) (hb : Below w.heap.size w w') : EntIn w' x r := ⟨k.h.keep hb, k.b.keep hb, k.k.keep hb, k.hc, k.bc, k.tc⟩
/-- Entries one behind the other: thirteen cells each. -/
def EntsAt (w : World) (b off : Nat) (l : List (Ent × EntR)) : Prop := ∀ (i : Nat) q, l[i]? = some q → (∀ j, j < 13 → w.cell? ⟨b, off + i * 13 + j, none⟩ = (entW q.1 q.2)[j]?) ∧ EntIn w q.1 q.2
theorem EntsAt.keep {w w' : World} {b off : Nat} {l : List (Ent × EntR)} (h : EntsAt w b off l) (hb : Below w.heap.size w w') : EntsAt w' b off l := by
  intro i q hq
  obtain ⟨h1, h2⟩ := h i q hq
  refine ⟨fun j hj => ?_, h2.keep hb⟩
  have c := h1 j hj
  have hlt : b < w.heap.size := by
    have c0 := h1 0 (by omega)
    exact block_lt_of_cell (c0.trans rfl)
  rw [hb.cell (p := ⟨b, off + i * 13 + j, none⟩) hlt]
  exact c
def EntsIn (w : World) (a : Option Addr) (l : List (Ent × EntR)) : Prop := l = [] ∨ ∃ b off, a = some ⟨b, off, none⟩ ∧ EntsAt w b off l
theorem EntsIn.keep {w w' : World} {a : Option Addr} {l : List (Ent × EntR)} (h : EntsIn w a l) (hb : Below w.heap.size w w') : EntsIn w' a l := by
  rcases h with h | ⟨b, off, e, h⟩
  · exact .inl h
  · exact .inr ⟨b, off, e, h.keep hb⟩
/-- Sizes that came in. -/
structure EntSm (x : Ent) : Prop where
  key : x.key.size ≤ maxLen
  hl : x.hs.length ≤ maxLen
  hs : SmallHdrs x.hs
  bl : x.bl.length ≤ maxLen
  tl : x.ts.length ≤ maxLen
  ts : ∀ t ∈ x.ts, t.size ≤ maxLen
end Go.Proofs.YtkchefbhpbpanaaGreatDoor
/-
  Copies of head lines, bytes and texts, by the model.
-/
namespace Go.Proofs.YtkchefbhpbpanaaGreatDoor
open Go.ChangeShapes Go.WideShapes Go.ChangeAt Go.RowKit Go.Sort
theorem cHeadI : (Tryz.prog.info? 153).map (fun i => (i.zero, i.size, i.bytes)) = some (some (.agg #[.string ⟨#[]⟩, .string ⟨#[]⟩]), 2, 32) := by kernel_rfl
theorem cByteI : (Tryz.prog.info? 5).map (fun i => (i.zero, i.size, i.bytes)) = some (some (.int .u8 0), 1, 1) := by kernel_rfl
theorem cTextI : (Tryz.prog.info? 9).map (fun i => (i.zero, i.size, i.bytes)) = some (some (.string ⟨#[]⟩), 1, 16) := by kernel_rfl
def cBytes (l : List UInt8) : List Value := l.map fun c => Value.int .u8 (c.toNat : Int)
def cTexts (l : List ByteArray) : List Value := l.map Value.string
def RowB (w : World) (base : Nat) (v : Value) (l : List UInt8) : Prop := w.ownsRow base 5 1 v l.length (cBytes l)
def RowT (w : World) (base : Nat) (v : Value) (l : List ByteArray) : Prop := w.ownsRow base 9 1 v l.length (cTexts l)
def RowH (w : World) (base : Nat) (v : Value) (l : List Hdr) : Prop := w.ownsRow base 153 2 v l.length (hdrsW l)
theorem cadd (b off j : Nat) : (⟨b, off, none⟩ : Addr).add j = ⟨b, off + j, none⟩ := by unfold Addr.add; split <;> simp_all
theorem cBytes_in {w : World} {a : Option Addr} {l : List UInt8} (h : BIn w a l) : l.length = 0 ∨ ∃ ad, a = some ad ∧ ∀ j u, (cBytes l)[j]? = some u → w.cell? (ad.add j) = some u := by
  rcases h with rfl | ⟨b, off, rfl, h⟩
  · exact .inl rfl
  · refine .inr ⟨_, rfl, fun j u hj => ?_⟩
    unfold cBytes at hj
    rw [List.getElem?_map] at hj
    obtain ⟨c, hc, rfl⟩ := Option.map_eq_some_iff.1 hj
    rw [cadd]
    exact h j c hc
theorem cTexts_in {w : World} {a : Option Addr} {l : List ByteArray} (h : TIn w a l) : l.length = 0 ∨ ∃ ad, a = some ad ∧ ∀ j u, (cTexts l)[j]? = some u → w.cell? (ad.add j) = some u := by
  rcases h with rfl | ⟨b, off, rfl, h⟩
  · exact .inl rfl
  · refine .inr ⟨_, rfl, fun j u hj => ?_⟩
    unfold cTexts at hj
    rw [List.getElem?_map] at hj
    obtain ⟨c, hc, rfl⟩ := Option.map_eq_some_iff.1 hj
    rw [cadd]
    exact h j c hc
theorem cHeads_in {w : World} {a : Option Addr} {l : List Hdr} (h : HdsIn w a l) : l.length = 0 ∨ ∃ ad, a = some ad ∧ ∀ j u, (hdrsW l)[j]? = some u → w.cell? (ad.add j) = some u := by
  rcases h with rfl | ⟨b, off, rfl, h⟩
  · exact .inl rfl
  · refine .inr ⟨_, rfl, fun j u hj => ?_⟩
    rw [cadd]
    have hlt : j < (hdrsW l).length := (List.getElem?_eq_some_iff.1 hj).1
    rw [hdrsW_len] at hlt
    obtain ⟨r, hr⟩ : ∃ r, l[j / 2]? = some r := ⟨l[j / 2]'(by omega), List.getElem?_eq_getElem _⟩
    obtain ⟨e0, e1⟩ := hdrsW_at l (j / 2) r hr
    obtain ⟨c0, c1⟩ := h (j / 2) r hr
    rcases Nat.mod_two_eq_zero_or_one j with hm | hm
    · have ej : j / 2 * 2 = j := by omega
      rw [ej] at e0 c0
      rw [e0] at hj
      rw [← hj]; exact c0
    · have ej : j / 2 * 2 + 1 = j := by omega
      rw [ej] at e1
      rw [Nat.add_assoc, ej] at c1
      rw [e1] at hj
      rw [← hj]; exact c1
theorem cOneB (l : List UInt8) : ∀ u ∈ cBytes l, u.oneCell' = true := fun u hu => by obtain ⟨c, _, rfl⟩ := List.mem_map.1 hu; rfl
theorem cOneT (l : List ByteArray) : ∀ u ∈ cTexts l, u.oneCell' = true := fun u hu => by obtain ⟨c, _, rfl⟩ := List.mem_map.1 hu; rfl
theorem cOneH (l : List Hdr) : ∀ u ∈ hdrsW l, u.oneCell' = true := by
  intro u hu
  simp only [hdrsW, List.mem_flatMap] at hu
  obtain ⟨r, _, hr⟩ := hu
  simp only [hdrW, List.mem_cons, List.not_mem_nil, or_false] at hr
  rcases hr with rfl | rfl <;> rfl
theorem RowB.in {w : World} {base : Nat} {v : Value} {l : List UInt8} (h : RowB w base v l) : ∃ a c, v = .slice a l.length c ∧ l.length ≤ c ∧ BIn w a l := by
  have h0 := h
  obtain ⟨_, h1 | ⟨g, c, cur, rfl, _, _, hc, _⟩⟩ := h
  · have e : l = [] := List.eq_nil_of_length_eq_zero h1.2
    subst e
    exact ⟨none, 0, h1.1, Nat.le_refl _, .inl rfl⟩
  · refine ⟨_, c, rfl, hc, .inr ⟨g, 0, rfl, fun i q hq => ?_⟩⟩
    have hi := (List.getElem?_eq_some_iff.1 hq).1
    have c1 := World.ownsRow.cellAt h0 i (by omega)
    rw [Nat.zero_add, c1]
    unfold cBytes
    rw [List.getElem?_map, hq]
    rfl
theorem RowT.in {w : World} {base : Nat} {v : Value} {l : List ByteArray} (h : RowT w base v l) : ∃ a c, v = .slice a l.length c ∧ l.length ≤ c ∧ TIn w a l := by
  have h0 := h
  obtain ⟨_, h1 | ⟨g, c, cur, rfl, _, _, hc, _⟩⟩ := h
  · have e : l = [] := List.eq_nil_of_length_eq_zero h1.2
    subst e
    exact ⟨none, 0, h1.1, Nat.le_refl _, .inl rfl⟩
  · refine ⟨_, c, rfl, hc, .inr ⟨g, 0, rfl, fun i q hq => ?_⟩⟩
    have hi := (List.getElem?_eq_some_iff.1 hq).1
    have c1 := World.ownsRow.cellAt h0 i (by omega)
    rw [Nat.zero_add, c1]
    unfold cTexts
    rw [List.getElem?_map, hq]
    rfl
theorem RowH.in {w : World} {base : Nat} {v : Value} {l : List Hdr} (h : RowH w base v l) : ∃ a c, v = .slice a l.length c ∧ l.length ≤ c ∧ HdsIn w a l := by
  have hf := row_form h
  obtain ⟨va, vc, e, hle⟩ := hf
  obtain ⟨a, c, e2, hi⟩ := OwnH.at (w := w) (base := base) (v := v) (l := l) h
  rw [e] at e2
  simp only [Value.slice.injEq, true_and] at e2
  obtain ⟨rfl, rfl⟩ := e2
  exact ⟨va, vc, e, hle, hi⟩
set_option maxHeartbeats 2000000 in
theorem l4Copy_in (w : World) (a : Option Addr) (cap : Nat) (l : List Hdr) (hl : l.length ≤ 1048576) (hi : HdsIn w a l) :
    Calls Tryz.prog 108 #[.slice a l.length cap] w fun e w' => (∃ v, e = .returned v ∧ RowH w' w.heap.size v l) ∧ Below w.heap.size w w' := by
  obtain ⟨i0, hi0, hz0, hz1, hz2⟩ := info_parts cHeadI
  have B1 : Hid (Below w.heap.size w (w.alloc (.cells #[] 153))) := (Below.refl _ _).alloc (Nat.le_refl _) _
  have O1 : Hid ((w.alloc (.cells #[] 153)).ownsRow w.heap.size 153 2 (.slice (some ⟨w.heap.size, 0, none⟩) 0 0) 0 []) := World.ownsRow_made w #[] 0 (Nat.le_refl _) (by unfold maxLen; omega) rfl
  have HIN : Hid (l.length = 0 ∨ ∃ ad, a = some ad ∧ ∀ j u, (hdrsW l)[j]? = some u → (w.alloc (.cells #[] 153)).cell? (ad.add j) = some u) := cHeads_in (hi.keep B1.out)
  have HLN : Hid ((hdrsW l).length = l.length * 2) := by show _ = _; rw [hdrsW_len]
  have HRW : Hid (∀ X v, X.ownsRow w.heap.size 153 2 v (0 + l.length) ([] ++ hdrsW l) → RowH X w.heap.size v l) := fun X v h => by rw [Nat.zero_add, List.nil_append] at h; exact h
  clear hi
  generalize hn : l.length = n at *
  clear hn
  go_enter Tryz.func108, Tryz.ntmps108
  go_wp2_with (at_builtin; refine wpList_plain rfl fun _ hK => wp_append_in _ (.tmp 3) (.tmp 4) 31 153 rfl i0 _ 2 32 Tryz.underlying31 hi0 hz0 hz1 hz2 rfl (by omega) w.heap.size _ 0 [] rfl O1.out a cap n (hdrsW l) rfl HLN.out HIN.out (cOneH l) (by unfold maxLen; omega) (by omega) B1.out.size (fun v' w' h1 h2 _ => hK _ _ ?_))
  go_ret
  exact ⟨⟨_, rfl, HRW.out _ _ h1⟩, B1.out.trans h2⟩
end Go.Proofs.YtkchefbhpbpanaaGreatDoor
/-
  markText: a text of its own for each number.
-/
namespace Go.Proofs.YtkchefbhpbpanaaGreatDoor
open Go.ChangeShapes Go.WideShapes Go.ChangeAt Go.RowKit
def mkD (k : Nat) (o : ByteArray) : ByteArray := if _h : k = 0 then o else mkD (k / 10) ((⟨#[UInt8.ofNat (48 + k % 10)]⟩ : ByteArray) ++ o)
termination_by k
decreasing_by omega
theorem mkD_zero (o : ByteArray) : mkD 0 o = o := by rw [mkD]; simp
theorem mkD_more {k : Nat} (h : k ≠ 0) (o : ByteArray) : mkD k o = mkD (k / 10) ((⟨#[UInt8.ofNat (48 + k % 10)]⟩ : ByteArray) ++ o) := by rw [mkD, dif_neg h]
def mkT (k : Nat) : ByteArray := (⟨#[109]⟩ : ByteArray) ++ mkD k ⟨#[]⟩
theorem one_byteM (c : Int) (x : UInt8) (hx : (x.toNat : Int) = c) (W : World) (B cap : Nat) (hc : W.cell? ⟨B, 0, none⟩ = some (.int .u8 c)) :
    (convert 54 9 (.slice (some ⟨B, 0, none⟩) 1 cap)).run Tryz.prog W = .ok (.string ⟨#[x]⟩) W := by
  have := run_convert_bytes_back (P := Tryz.prog) W 54 9 5 ⟨B, 0, none⟩ cap [x] Tryz.underlying54 Tryz.underlying5 Tryz.underlying9 (fun j hj => by
    obtain rfl : j = 0 := by simp at hj; omega
    simp [Addr.add, hc, hx])
  simpa using this
set_option maxHeartbeats 2000000 in
theorem markText_any (k : Nat) (h0 : 1 ≤ k) (h1 : k ≤ 1000000000000000) (w : World) :
    Calls Tryz.prog 113 #[.int .i64 (k : Int)] w fun e w' => e = .returned (.string (mkT k)) ∧ Below w.heap.size w w' := by
  have HT : Hid (mkT k = (⟨#[109]⟩ : ByteArray) ++ mkD k ⟨#[]⟩) := rfl
  have g : ¬ (k : Int) ≤ 0 := by omega
  go_enter Tryz.func113, Tryz.ntmps113
  go_wp2
  go_loopw [0, 3] (fun x v wr => ∃ (j : Nat) (o : ByteArray), j ≤ k ∧ x = .int .i64 (j : Int) ∧ v = .string o ∧ mkD k ⟨#[]⟩ = mkD j o ∧ o.size + j ≤ k ∧ Below w.heap.size w wr) (fun x _ _ => (intOf x).toNat)
  case atStart => exact ⟨k, ⟨#[]⟩, Nat.le_refl _, rfl, rfl, rfl, by simp [ByteArray.size], Below.refl _ _⟩
  case round =>
    obtain ⟨j, o, hj, rfl, rfl, he, hs, hb⟩ := hrel
    have HE : Hid (mkD k ⟨#[]⟩ = mkD j o) := he
    have KB : Hid (Below w.heap.size w wr) := hb
    clear he hb
    by_cases hj0 : j = 0
    · subst hj0
      have HX : Hid (mkD k ⟨#[]⟩ = o) := by show _ = _; rw [HE.out, mkD_zero]
      have zk : (⟨#[109]⟩ : ByteArray).size = 1 := rfl
      have hadd := fun w => run_string_add_sum (P := Tryz.prog) (w := w) (⟨#[109]⟩ : ByteArray) o (by omega)
      clear zk
      go_wp2_with fail
      go_ret
      exact ⟨ret_str (by rw [HT.out, HX.out]), KB.out⟩
    · have HX : Hid (mkD k ⟨#[]⟩ = mkD (j / 10) ((⟨#[UInt8.ofNat (48 + j % 10)]⟩ : ByteArray) ++ o)) := by show _ = _; rw [HE.out, mkD_more hj0]
      have hcv := one_byteM (48 + (j : Int) % 10) (UInt8.ofNat (48 + j % 10)) (by rw [UInt8.toNat_ofNat_of_lt' (by show 48 + j % 10 < 256; omega)]; omega)
      have zr : (⟨#[UInt8.ofNat (48 + j % 10)]⟩ : ByteArray).size = 1 := rfl
      generalize (⟨#[UInt8.ofNat (48 + j % 10)]⟩ : ByteArray) = r at *
      have zq : (r ++ o).size = 1 + o.size := by rw [ByteArray.size_append, zr]
      have hadd := fun w => run_string_add_sum (P := Tryz.prog) (w := w) r o (by omega)
      generalize r ++ o = q at *
      have g1 : (0 : Int) < (j : Int) := by omega
      have e2 : IntKind.u8.wrap (48 + (j : Int) % 10) = 48 + (j : Int) % 10 := by rw [IntKind.wrap_u8]; omega
      have hj9 : (j : Int) ≤ 1000000000000000 := by omega
      go_wp2_with fail
      go_roundw
      case rel => exact ⟨j / 10, q, by omega, by go_num, rfl, HX.out, by omega, KB.out.alloc KB.out.size _⟩
      case measure => simp [intOf]; omega
end Go.Proofs.YtkchefbhpbpanaaGreatDoor
/-
  All that was there, but for one block, is as it was.
-/
namespace Go.Proofs.YtkchefbhpbpanaaGreatDoor
open Go.ChangeShapes Go.WideShapes Go.ChangeAt Go.RowKit
/-- All that was there, but for block B, is as it was. -/
structure Apart (B : Nat) (w w' : World) : Prop where
  size : w.heap.size ≤ w'.heap.size
  cell : ∀ b o, b < w.heap.size → b ≠ B → w'.cell? ⟨b, o, none⟩ = w.cell? ⟨b, o, none⟩
  frozen : ∀ b o, b < w.heap.size → b ≠ B → w'.frozen? ⟨b, o, none⟩ = w.frozen? ⟨b, o, none⟩
theorem Apart.refl (B : Nat) (w : World) : Apart B w w := ⟨Nat.le_refl _, fun _ _ _ _ => rfl, fun _ _ _ _ => rfl⟩
theorem Apart.trans {B : Nat} {w w1 w2 : World} (h : Apart B w w1) (k : Apart B w1 w2) : Apart B w w2 :=
  ⟨Nat.le_trans h.size k.size, fun b o hb hn => by rw [k.cell b o (Nat.lt_of_lt_of_le hb h.size) hn, h.cell b o hb hn], fun b o hb hn => by rw [k.frozen b o (Nat.lt_of_lt_of_le hb h.size) hn, h.frozen b o hb hn]⟩
theorem Apart.below {B : Nat} {w w' : World} (h : Below w.heap.size w w') : Apart B w w' :=
  ⟨h.size, fun b o hb _ => h.cell (p := ⟨b, o, none⟩) hb, fun b o hb _ => h.frozen (p := ⟨b, o, none⟩) hb⟩
theorem Apart.alloc (B : Nat) (w : World) (o : Obj) : Apart B w (w.alloc o) := .below ((Below.refl _ _).alloc (Nat.le_refl _) _)
theorem Apart.set (B o : Nat) (w : World) (v : Value) : Apart B w (w.setCell ⟨B, o, none⟩ v) := by
  refine ⟨by simp, fun b o' _ hn => ?_, fun b o' _ hn => ?_⟩
  · rw [World.cell?_setCell_other _ _ _ _ (by intro h; have := congrArg Addr.block h; simp at this; omega)]
  · rw [World.frozen?_setCell]
end Go.Proofs.YtkchefbhpbpanaaGreatDoor
/-
  markHeaderS and heldHeaderS: marks laid into head lines, and found again.
-/
namespace Go.Proofs.YtkchefbhpbpanaaGreatDoor
open Go.ChangeShapes Go.WideShapes Go.ChangeAt Go.RowKit Go.Sort
def mkHR (k : Nat) (j : Nat) : Hdr := ⟨mkT (k + 2 * j), mkT (k + 2 * j + 1)⟩
def mkHL (k n : Nat) : List Hdr := (List.range n).map (mkHR k)
theorem mkHL_len (k n : Nat) : (mkHL k n).length = n := by simp [mkHL]
theorem mkHL_get {k n i : Nat} (h : i < n) : (mkHL k n)[i]? = some (mkHR k i) := by simp [mkHL, h]
theorem hcell_set_same {w : World} {g o : Nat} {u v : Value} (h : w.cell? ⟨g, o, none⟩ = some u) : (w.setCell ⟨g, o, none⟩ v).cell? ⟨g, o, none⟩ = some v := World.cell?_setCell_same _ _ _ h
theorem hcell_set_off {w : World} {g o o' : Nat} {v : Value} (h : o ≠ o') : (w.setCell ⟨g, o', none⟩ v).cell? ⟨g, o, none⟩ = w.cell? ⟨g, o, none⟩ :=
  World.cell?_setCell_other _ _ _ _ (by intro e; have := congrArg Addr.off e; simp at this; omega)
/-- One field of one line written. -/
theorem hput_name {w : World} {g off i : Nat} {L : List Hdr} {r : Hdr} (h : HeadsAt w g off L) (hr : L[i]? = some r) (n : ByteArray) :
    HeadsAt (w.setCell ⟨g, off + i * 2, none⟩ (.string n)) g off (L.set i { r with name := n }) := by
  intro j q hq
  by_cases e : j = i
  · subst e
    have hl := (List.getElem?_eq_some_iff.1 hr).1
    rw [List.getElem?_set_self hl] at hq
    obtain rfl := Option.some.inj hq
    obtain ⟨a, c⟩ := h j r hr
    exact ⟨hcell_set_same a, by rw [hcell_set_off (by omega)]; exact c⟩
  · rw [List.getElem?_set_ne (fun k => e k.symm)] at hq
    obtain ⟨a, c⟩ := h j q hq
    exact ⟨by rw [hcell_set_off (by omega)]; exact a, by rw [hcell_set_off (by omega)]; exact c⟩
theorem hput_value {w : World} {g off i : Nat} {L : List Hdr} {r : Hdr} (h : HeadsAt w g off L) (hr : L[i]? = some r) (n : ByteArray) :
    HeadsAt (w.setCell ⟨g, off + i * 2 + 1, none⟩ (.string n)) g off (L.set i { r with value := n }) := by
  intro j q hq
  by_cases e : j = i
  · subst e
    have hl := (List.getElem?_eq_some_iff.1 hr).1
    rw [List.getElem?_set_self hl] at hq
    obtain rfl := Option.some.inj hq
    obtain ⟨a, c⟩ := h j r hr
    exact ⟨by rw [hcell_set_off (by omega)]; exact a, hcell_set_same c⟩
  · rw [List.getElem?_set_ne (fun k => e k.symm)] at hq
    obtain ⟨a, c⟩ := h j q hq
    exact ⟨by rw [hcell_set_off (by omega)]; exact a, by rw [hcell_set_off (by omega)]; exact c⟩
/-- The state of the marking loop: j lines are marked. -/
structure HMarked (w : World) (g off : Nat) (k n j : Nat) (L : List Hdr) (W : World) : Prop where
  len : L.length = n
  done : ∀ i, i < j → L[i]? = some (mkHR k i)
  items : HeadsAt W g off L
  thaw : ∀ o, W.frozen? ⟨g, o, none⟩ = false
  apart : Apart g w W
  low : Below g w W
  lt : g < W.heap.size
theorem HMarked.below {w : World} {g off k n j : Nat} {L : List Hdr} {W W' : World} (h : HMarked w g off k n j L W) (hb : Below W.heap.size W W') : HMarked w g off k n j L W' :=
  ⟨h.len, h.done, h.items.keep hb, fun o => by rw [hb.frozen (p := ⟨g, o, none⟩) h.lt, h.thaw], h.apart.trans (.below hb), h.low.trans (hb.mono (Nat.le_of_lt h.lt)), Nat.lt_of_lt_of_le h.lt hb.size⟩
theorem HMarked.set {w : World} {g off k n j o : Nat} {L L' : List Hdr} {W : World} {v : Value} (h : HMarked w g off k n j L W) (hl : L'.length = L.length) (hd : ∀ i, i < j → L'[i]? = L[i]?) (hi : HeadsAt (W.setCell ⟨g, o, none⟩ v) g off L') : HMarked w g off k n j L' (W.setCell ⟨g, o, none⟩ v) :=
  ⟨hl.trans h.len, fun i hi => (hd i hi).trans (h.done i hi), hi, fun o => by rw [World.frozen?_setCell, h.thaw], h.apart.trans (.set _ _ _ _), h.low.setCell (Nat.le_refl _) _, by simpa using h.lt⟩
end Go.Proofs.YtkchefbhpbpanaaGreatDoor
/-
  markHeaderS and heldHeaderS.
-/
namespace Go.Proofs.YtkchefbhpbpanaaGreatDoor
open Go.ChangeShapes Go.WideShapes Go.ChangeAt Go.RowKit Go.Sort
set_option maxRecDepth 100000 in
set_option maxHeartbeats 4000000 in
theorem markHeaderS_any (w : World) (g off cap n k : Nat) (l : List Hdr) (hn : l.length = n) (hn2 : n ≤ 1048576) (hk0 : 1 ≤ k) (hk1 : k ≤ 100000000000000) (hi : HeadsAt w g off l) (hf : ∀ o, w.frozen? ⟨g, o, none⟩ = false) (hg : g < w.heap.size) :
    Calls Tryz.prog 91 #[.slice (some ⟨g, off, none⟩) n cap, .int .i64 (k : Int)] w fun e w' => e = .returned (.int .i64 ((k + 2 * n : Nat) : Int)) ∧ HeadsAt w' g off (mkHL k n) ∧ Apart g w w' ∧ Below g w w' ∧ ∀ o, w'.frozen? ⟨g, o, none⟩ = false := by
  have HST : Hid (HMarked w g off k n 0 l w) := ⟨hn, fun i h => by omega, hi, hf, .refl _ _, Below.refl _ _, hg⟩
  clear hi hf hg hn
  go_enter Tryz.func91, Tryz.ntmps91
  go_wp2_with fail
  go_loopw [1, 5] (fun x i wr => ∃ (j : Nat) (L : List Hdr), j ≤ n ∧ i = .int .i64 (j : Int) ∧ x = .int .i64 ((k + 2 * j : Nat) : Int) ∧ HMarked w g off k n j L wr) (fun _ i _ => n - (intOf i).toNat)
  case atStart => exact ⟨0, l, Nat.zero_le _, rfl, rfl, HST.out⟩
  case round =>
    obtain ⟨j, L, hj, rfl, rfl, hm⟩ := hrel
    have HM : Hid (HMarked w g off k n j L wr) := hm
    clear hm HST
    by_cases hlt : j < n
    · obtain ⟨r, hr⟩ : ∃ r, L[j]? = some r := ⟨L[j]'(by have := HM.out.len; omega), List.getElem?_eq_getElem _⟩
      have HR : Hid (L[j]? = some r) := hr
      clear hr
      have g0 : (0 : Int) ≤ j := by omega
      have g1 : (j : Int) < n := by omega
      have HT1 : Hid (∀ w, Calls Tryz.prog 113 #[.int .i64 ((k + 2 * j : Nat) : Int)] w fun e w' => e = .returned (.string (mkT (k + 2 * j))) ∧ Below w.heap.size w w') := markText_any (k + 2 * j) (by omega) (by omega)
      go_wp2_with fail
      refine (HT1.out _).mono ?_
      rintro e w1 ⟨rfl, hb1⟩
      have HM1 : Hid (HMarked w g off k n j L w1) := HM.out.below hb1
      clear hb1 HM
      obtain ⟨p1, p3⟩ := HM1.out.items j r HR.out
      have f1 := HM1.out.thaw (off + j * 2)
      have HT2 : Hid (∀ w, Calls Tryz.prog 113 #[.int .i64 ((k : Int) + 2 * j + 1)] w fun e w' => e = .returned (.string (mkT (k + 2 * j + 1))) ∧ Below w.heap.size w w') := by
        have := markText_any (k + 2 * j + 1) (by omega) (by omega)
        rw [show ((k + 2 * j + 1 : Nat) : Int) = (k : Int) + 2 * j + 1 by omega] at this
        exact this
      have hl : Hid (j < L.length) := (List.getElem?_eq_some_iff.1 HR.out).1
      have HM2 := HM1.out.set (L' := L.set j { r with name := mkT (k + 2 * j) }) (by simp) (fun i hi => by rw [List.getElem?_set_ne (by omega)]) (hput_name HM1.out.items HR.out (mkT (k + 2 * j)))
      have HM4 : Hid _ := HM2
      clear HM2 HM1
      go_wp2_with fail
      refine (HT2.out _).mono ?_
      rintro e w2 ⟨rfl, hb2⟩
      have HM5 : Hid (HMarked w g off k n j (L.set j { r with name := mkT (k + 2 * j) }) w2) := HM4.out.below hb2
      clear hb2 HM4 p1 p3 f1
      have hr5 : (L.set j { r with name := mkT (k + 2 * j) })[j]? = some { r with name := mkT (k + 2 * j) } := List.getElem?_set_self hl.out
      obtain ⟨p1, p3⟩ := HM5.out.items j _ hr5
      have f3 := HM5.out.thaw (off + j * 2 + 1)
      have HM6 := HM5.out.set (L' := (L.set j { r with name := mkT (k + 2 * j) }).set j (mkHR k j)) (by simp) (fun i hi => by rw [List.getElem?_set_ne (by omega)]) (by
        have := hput_value HM5.out.items hr5 (mkT (k + 2 * j + 1))
        exact this)
      have HM7 : Hid _ := HM6
      clear HM6 hr5 HM5
      go_wp2_with fail
      go_roundw
      case rel => exact ⟨j + 1, _, by omega, by go_num, by congr 1, HM7.out.len, fun i hi => by
        by_cases e : i = j
        · subst e; exact List.getElem?_set_self (by simpa using hl.out)
        · exact HM7.out.done i (by omega), HM7.out.items, HM7.out.thaw, HM7.out.apart, HM7.out.low, HM7.out.lt⟩
      case measure => simp [intOf]; omega
    · obtain rfl : j = n := by omega
      have HX : Hid (HeadsAt wr g off (mkHL k j)) := by
        have e : L = mkHL k j := by
          apply List.ext_getElem?
          intro i
          by_cases hi : i < j
          · rw [HM.out.done i hi, mkHL_get hi]
          · rw [List.getElem?_eq_none (by have := HM.out.len; omega), List.getElem?_eq_none (by rw [mkHL_len]; omega)]
        show HeadsAt _ _ _ _
        rw [← e]
        exact HM.out.items
      go_wp2_with fail
      go_ret
      exact ⟨rfl, HX.out, HM.out.apart, HM.out.low, HM.out.thaw⟩
set_option maxRecDepth 100000 in
set_option maxHeartbeats 4000000 in
theorem heldHeaderS_any (w : World) (g off cap n k : Nat) (hn2 : n ≤ 1048576) (hk0 : 1 ≤ k) (hk1 : k ≤ 100000000000000) (hi : HeadsAt w g off (mkHL k n)) :
    Calls Tryz.prog 114 #[.slice (some ⟨g, off, none⟩) n cap, .int .i64 (k : Int)] w fun e w' => e = .returned (.int .i64 ((k + 2 * n : Nat) : Int)) ∧ Below w.heap.size w w' := by
  have HI : Hid (HeadsAt w g off (mkHL k n)) := hi
  clear hi
  go_enter Tryz.func114, Tryz.ntmps114
  go_wp2_with fail
  go_loopw [1, 5] (fun x i wr => ∃ (j : Nat), j ≤ n ∧ i = .int .i64 (j : Int) ∧ x = .int .i64 ((k + 2 * j : Nat) : Int) ∧ Below w.heap.size w wr) (fun _ i _ => n - (intOf i).toNat)
  case atStart => exact ⟨0, Nat.zero_le _, rfl, rfl, Below.refl _ _⟩
  case round =>
    obtain ⟨j, hj, rfl, rfl, hb⟩ := hrel
    have KB : Hid (Below w.heap.size w wr) := hb
    clear hb
    by_cases hlt : j < n
    · obtain ⟨p1, p3⟩ := (HI.out.keep KB.out) j _ (mkHL_get hlt)
      have q1 : wr.cell? ⟨g, off + j * 2, none⟩ = some (.string (mkT (k + 2 * j))) := p1
      have q3 : wr.cell? ⟨g, off + j * 2 + 1, none⟩ = some (.string (mkT (k + 2 * j + 1))) := p3
      clear p1 p3
      have g0 : (0 : Int) ≤ j := by omega
      have g1 : (j : Int) < n := by omega
      have HT1 : Hid (∀ w, Calls Tryz.prog 113 #[.int .i64 ((k : Int) + 2 * j)] w fun e w' => e = .returned (.string (mkT (k + 2 * j))) ∧ Below w.heap.size w w') := by
        have := markText_any (k + 2 * j) (by omega) (by omega)
        rw [show ((k + 2 * j : Nat) : Int) = (k : Int) + 2 * j by omega] at this
        exact this
      have HT2 : Hid (∀ w, Calls Tryz.prog 113 #[.int .i64 ((k : Int) + 2 * j + 1)] w fun e w' => e = .returned (.string (mkT (k + 2 * j + 1))) ∧ Below w.heap.size w w') := by
        have := markText_any (k + 2 * j + 1) (by omega) (by omega)
        rw [show ((k + 2 * j + 1 : Nat) : Int) = (k : Int) + 2 * j + 1 by omega] at this
        exact this
      have KC : Hid (wr.cell? ⟨g, off + j * 2 + 1, none⟩ = some (.string (mkT (k + 2 * j + 1)))) := q3
      clear q3
      generalize mkT (k + 2 * j) = t1 at *
      generalize mkT (k + 2 * j + 1) = t2 at *
      have x1 := cell_regrown q1
      clear q1
      have cE : ∀ d os, Calls Tryz.prog 113 #[.int .i64 ((k : Int) + 2 * j)] (grow (redrawn wr d) os) fun e w'' => e = .returned (.string t1) ∧ ∃ p : Regrown, w'' = grow (redrawn wr p.d) p.os := fun d os => Calls.regrown_of (HT1.out _)
      go_wp2_with fail
      refine wp_region_quiet_below (by kernel_rfl) (by kernel_rfl) ?_
      repeat (go_big_quiet_step ((go_at_call 113; exact cE _ _)))
      refine wpQuiet_nil ?_
      intro w2 hw2
      have hb2 : Below wr.heap.size wr w2 := by
        obtain ⟨⟨d, os⟩, rfl⟩ := hw2
        exact below_regrown wr d os
      have KB2 : Hid (Below w.heap.size w w2) := KB.out.trans (hb2.mono KB.out.size)
      have y3 : w2.cell? ⟨g, off + j * 2 + 1, none⟩ = some (.string t2) := by rw [hb2.cell (block_lt_of_cell KC.out), KC.out]
      have x3 := cell_regrown y3
      clear x1 cE hw2 hb2 KB KC y3
      have cF : ∀ d os, Calls Tryz.prog 113 #[.int .i64 ((k : Int) + 2 * j + 1)] (grow (redrawn w2 d) os) fun e w'' => e = .returned (.string t2) ∧ ∃ p : Regrown, w'' = grow (redrawn w2 p.d) p.os := fun d os => Calls.regrown_of (HT2.out _)
      go_wp2_with fail
      refine wp_region_quiet_below (by kernel_rfl) (by kernel_rfl) ?_
      repeat (go_big_quiet_step ((go_at_call 113; exact cF _ _)))
      refine wpQuiet_nil ?_
      intro w3 hw3
      have KB3 : Hid (Below w.heap.size w w3) := by
        obtain ⟨⟨d, os⟩, rfl⟩ := hw3
        exact KB2.out.trans ((below_regrown w2 d os).mono KB2.out.size)
      clear x3 cF hw3 KB2
      go_wp2_with fail
      go_roundw
      case rel => exact ⟨j + 1, by omega, by go_num, by congr 1, KB3.out⟩
      case measure => simp [intOf]; omega
    · obtain rfl : j = n := by omega
      go_wp2_with fail
      go_ret
      exact ⟨rfl, KB.out⟩
end Go.Proofs.YtkchefbhpbpanaaGreatDoor
/-
  The laws' comparing of two lists of items that are alike.
-/
namespace Go.Proofs.YtkchefbhpbpanaaGreatDoor
open Go.ChangeShapes Go.WideShapes Go.ChangeAt Go.RowKit Go.Sort
set_option maxRecDepth 100000 in
set_option maxHeartbeats 2000000 in
theorem eqHeaderS_same (w : World) (b1 o1 b2 o2 c1 c2 : Nat) (l : List Hdr) (hl : l.length ≤ 1048576) (h1 : HeadsAt w b1 o1 l) (h2 : HeadsAt w b2 o2 l) :
    Calls Tryz.prog 89 #[.slice (some ⟨b1, o1, none⟩) l.length c1, .slice (some ⟨b2, o2, none⟩) l.length c2] w fun e w' => e = .returned (.bool true) ∧ Below w.heap.size w w' := by
  have H1 : Hid (HeadsAt w b1 o1 l) := h1
  have H2 : Hid (HeadsAt w b2 o2 l) := h2
  clear h1 h2
  generalize hn : l.length = n at *
  have HN : Hid (l.length = n) := hn
  clear hn
  go_enter Tryz.func89, Tryz.ntmps89
  go_wp2_with fail
  go_loopw [5] (fun i wr => ∃ k : Nat, k ≤ n ∧ i = .int .i64 k ∧ Below w.heap.size w wr) (fun i _ => n - (intOf i).toNat)
  case atStart => exact ⟨0, Nat.zero_le _, rfl, Below.refl _ _⟩
  case round =>
    obtain ⟨k, hk, rfl, hb⟩ := hrel
    by_cases hlt : k < n
    · obtain ⟨r, hr⟩ : ∃ r, l[k]? = some r := ⟨l[k]'(by have := HN.out; omega), List.getElem?_eq_getElem _⟩
      obtain ⟨p1, p3⟩ := (H1.out.keep hb) k r hr
      obtain ⟨q1, q3⟩ := (H2.out.keep hb) k r hr
      have x1 := cell_regrown p1
      have x3 := cell_regrown p3
      have y1 := cell_regrown q1
      have y3 := cell_regrown q3
      have cE : ∀ d os, Calls Tryz.prog 112 #[.agg #[.string r.name, .string r.value], .agg #[.string r.name, .string r.value]] (grow (redrawn wr d) os) fun e w'' => e = .returned (.bool true) ∧ ∃ p : Regrown, w'' = grow (redrawn wr p.d) p.os := fun d os => Calls.regrown_of (eqHeader_same r _)
      have g0 : (0 : Int) ≤ k := by omega
      have g : (k : Int) < n := by omega
      clear hr p1 p3 q1 q3
      generalize r.name = rn at *
      generalize r.value = rv at *
      go_wp2_with fail
      refine wp_region_quiet_below (by kernel_rfl) (by kernel_rfl) ?_
      repeat (go_big_quiet_step ((go_at_call 112; exact cE _ _)))
      refine wpQuiet_nil ?_
      intro w2 hw2
      have hbb : Below w.heap.size w w2 := by
        obtain ⟨⟨d, os⟩, rfl⟩ := hw2
        exact hb.trans ((below_regrown wr d os).mono hb.size)
      clear x1 x3 y1 y3 cE hw2 hb
      go_wp2_with fail
      go_roundw
      case rel => exact ⟨k + 1, by omega, by go_num, hbb⟩
      case measure => simp [intOf]; omega
    · go_wp2_with fail
      go_ret
      exact ⟨rfl, hb⟩
end Go.Proofs.YtkchefbhpbpanaaGreatDoor
/-
  Head lines as a value: compared, marked, held.
-/
namespace Go.Proofs.YtkchefbhpbpanaaGreatDoor
open Go.ChangeShapes Go.WideShapes Go.ChangeAt Go.RowKit Go.Sort
def HLV (w : World) (v : Value) (l : List Hdr) : Prop :=
  (v = .slice none 0 0 ∧ l = []) ∨ ∃ g cap, v = .slice (some ⟨g, 0, none⟩) l.length cap ∧ g < w.heap.size ∧ HeadsAt w g 0 l ∧ ∀ o, w.frozen? ⟨g, o, none⟩ = false
theorem OwnH.lv {w : World} {base : Nat} {v : Value} {l : List Hdr} (h : OwnH w base v l) : HLV w v l ∧ ∀ b, v.ownBlock = some b → base ≤ b := by
  have h0 := h
  obtain ⟨_, h1 | ⟨g, c, cur, rfl, hg, hh, _⟩⟩ := h
  · have e : l = [] := List.eq_nil_of_length_eq_zero h1.2
    exact ⟨.inl ⟨h1.1, e⟩, fun b hb => by rw [h1.1] at hb; cases hb⟩
  · refine ⟨.inr ⟨g, c, rfl, (Array.getElem?_eq_some_iff.1 hh).1, ?_, fun o => ?_⟩, fun b hb => ?_⟩
    · obtain ⟨a, c', e, hi⟩ := h0.at
      rcases hi with rfl | ⟨b, off, rfl, hat⟩
      · intro i r hr; simp at hr
      · simp only [Value.slice.injEq, Option.some.injEq] at e
        obtain ⟨e, _⟩ := e
        have e1 := congrArg Addr.block e
        have e2 := congrArg Addr.off e
        simp only at e1 e2
        rw [e1, e2]
        exact hat
    · simp [World.frozen?, hh]
    · simp only [Value.ownBlock, Option.some.injEq] at hb; omega
theorem HLV.below {w w' : World} {v : Value} {l : List Hdr} (h : HLV w v l) (hb : Below w.heap.size w w') : HLV w' v l := by
  rcases h with h | ⟨g, c, e, hg, hi, hf⟩
  · exact .inl h
  · exact .inr ⟨g, c, e, Nat.lt_of_lt_of_le hg hb.size, hi.keep hb, fun o => by rw [hb.frozen (p := ⟨g, o, none⟩) hg, hf]⟩
/-- All that was there, but for the memory of v, is as it was. -/
structure HAV (v : Value) (w w' : World) : Prop where
  size : w.heap.size ≤ w'.heap.size
  cell : ∀ b o, b < w.heap.size → v.ownBlock ≠ some b → w'.cell? ⟨b, o, none⟩ = w.cell? ⟨b, o, none⟩
  frozen : ∀ b o, b < w.heap.size → v.ownBlock ≠ some b → w'.frozen? ⟨b, o, none⟩ = w.frozen? ⟨b, o, none⟩
theorem HAV.below {v : Value} {w w' : World} (h : Below w.heap.size w w') : HAV v w w' :=
  ⟨h.size, fun b o hb _ => h.cell (p := ⟨b, o, none⟩) hb, fun b o hb _ => h.frozen (p := ⟨b, o, none⟩) hb⟩
theorem HLV.av {w w' : World} {v v1 : Value} {l : List Hdr} (h : HLV w v1 l) (k : HAV v w w') (hne : ∀ b, v1.ownBlock = some b → v.ownBlock ≠ some b) : HLV w' v1 l := by
  rcases h with h | ⟨g, c, rfl, hg, hi, hf⟩
  · exact .inl h
  · have hn := hne g rfl
    exact .inr ⟨g, c, rfl, Nat.lt_of_lt_of_le hg k.size, fun i r hr => by rw [k.cell g _ hg hn, k.cell g _ hg hn]; exact hi i r hr, fun o => by rw [k.frozen g o hg hn, hf]⟩
set_option maxHeartbeats 1000000 in
theorem eqHeaderS_nil (w : World) (a b : Option Addr) (c d : Nat) :
    Calls Tryz.prog 89 #[.slice a 0 c, .slice b 0 d] w fun e w' => e = .returned (.bool true) ∧ Below w.heap.size w w' := by
  go_enter Tryz.func89, Tryz.ntmps89
  go_wp2_with fail
  go_loop [5] (fun i => i = .int .i64 0) (fun _ => 0)
  case atStart => rfl
  case round =>
    obtain rfl := hrel
    go_wp2_with fail
    go_ret
    exact ⟨rfl, Below.refl _ _⟩
theorem eqHeaderS_lv (w : World) (v1 v2 : Value) (l : List Hdr) (hl : l.length ≤ 1048576) (h1 : HLV w v1 l) (h2 : HLV w v2 l) :
    Calls Tryz.prog 89 #[v1, v2] w fun e w' => e = .returned (.bool true) ∧ Below w.heap.size w w' := by
  rcases h1 with ⟨rfl, rfl⟩ | ⟨g, c, rfl, _, hi, _⟩
  · rcases h2 with ⟨rfl, _⟩ | ⟨g, c, rfl, _, _, _⟩
    · exact eqHeaderS_nil w _ _ _ _
    · exact eqHeaderS_nil w _ _ _ _
  · rcases h2 with ⟨rfl, rfl⟩ | ⟨g', c', rfl, _, hi', _⟩
    · exact eqHeaderS_nil w _ _ _ _
    · exact eqHeaderS_same w g 0 g' 0 c c' l hl hi hi'
set_option maxHeartbeats 1000000 in
theorem markHeaderS_nil (w : World) (a : Option Addr) (c k : Nat) :
    Calls Tryz.prog 91 #[.slice a 0 c, .int .i64 (k : Int)] w fun e w' => e = .returned (.int .i64 (k : Int)) ∧ Below w.heap.size w w' := by
  go_enter Tryz.func91, Tryz.ntmps91
  go_wp2_with fail
  go_loop [1, 5] (fun x i => x = .int .i64 (k : Int) ∧ i = .int .i64 0) (fun _ _ => 0)
  case atStart => exact ⟨rfl, rfl⟩
  case round =>
    obtain ⟨rfl, rfl⟩ := hrel
    go_wp2_with fail
    go_ret
    exact ⟨rfl, Below.refl _ _⟩
set_option maxHeartbeats 1000000 in
theorem heldHeaderS_nil (w : World) (a : Option Addr) (c k : Nat) :
    Calls Tryz.prog 114 #[.slice a 0 c, .int .i64 (k : Int)] w fun e w' => e = .returned (.int .i64 (k : Int)) ∧ Below w.heap.size w w' := by
  go_enter Tryz.func114, Tryz.ntmps114
  go_wp2_with fail
  go_loop [1, 5] (fun x i => x = .int .i64 (k : Int) ∧ i = .int .i64 0) (fun _ _ => 0)
  case atStart => exact ⟨rfl, rfl⟩
  case round =>
    obtain ⟨rfl, rfl⟩ := hrel
    go_wp2_with fail
    go_ret
    exact ⟨rfl, Below.refl _ _⟩
theorem markHeaderS_lv (w : World) (v : Value) (l : List Hdr) (hl : l.length ≤ 1048576) (h : HLV w v l) (base : Nat) (hb : ∀ b, v.ownBlock = some b → base ≤ b) (hbs : base ≤ w.heap.size) :
    Calls Tryz.prog 91 #[v, .int .i64 1] w fun e w' => e = .returned (.int .i64 ((1 + 2 * l.length : Nat) : Int)) ∧ HLV w' v (mkHL 1 l.length) ∧ HAV v w w' ∧ Below base w w' := by
  rcases h with ⟨rfl, rfl⟩ | ⟨g, c, rfl, hg, hi, hf⟩
  · exact (markHeaderS_nil w none 0 1).mono fun _ _ ⟨h1, h2⟩ => ⟨h1, .inl ⟨rfl, rfl⟩, .below h2, h2.mono hbs⟩
  · refine (markHeaderS_any w g 0 c l.length 1 l rfl hl (by omega) (by omega) hi hf hg).mono ?_
    rintro e w' ⟨h1, h2, h3, h4, h5⟩
    have hne : ∀ b, (Value.slice (some ⟨g, 0, none⟩) l.length c).ownBlock ≠ some b → b ≠ g := fun b hb e => hb (by subst e; rfl)
    refine ⟨h1, ?_, ⟨h3.size, fun b o hb hn => h3.cell b o hb (hne b hn), fun b o hb hn => h3.frozen b o hb (hne b hn)⟩, h4.mono (hb g rfl)⟩
    exact .inr ⟨g, c, by rw [mkHL_len], Nat.lt_of_lt_of_le hg h3.size, h2, h5⟩
theorem heldHeaderS_lv (w : World) (v : Value) (n : Nat) (hl : n ≤ 1048576) (h : HLV w v (mkHL 1 n)) :
    Calls Tryz.prog 114 #[v, .int .i64 1] w fun e w' => e = .returned (.int .i64 ((1 + 2 * n : Nat) : Int)) ∧ Below w.heap.size w w' := by
  rcases h with ⟨rfl, h0⟩ | ⟨g, c, rfl, _, hi, _⟩
  · have e := congrArg List.length h0
    rw [mkHL_len] at e
    simp at e
    subst e
    exact heldHeaderS_nil w none 0 1
  · rw [mkHL_len]
    exact heldHeaderS_any w g 0 c n 1 hl (by omega) (by omega) hi
end Go.Proofs.YtkchefbhpbpanaaGreatDoor
/-
  Rows of head lines as facts that hang on a stretch of blocks.
-/
namespace Go.Proofs.YtkchefbhpbpanaaGreatDoor
open Go.ChangeShapes Go.WideShapes Go.ChangeAt Go.RowKit Go.Sort
def HL (v : Value) (l : List Hdr) (lo hi : Nat) (X : World) : Prop := HLV X v l ∧ ∀ b, v.ownBlock = some b → lo ≤ b ∧ b < hi
theorem HL.dep (v : Value) (l : List Hdr) (lo hi : Nat) : Dep lo hi (HL v l lo hi) := fun X X' h1 h2 hc k => by
  refine ⟨?_, k.2⟩
  rcases k.1 with e | ⟨g, c, rfl, hg, hi', hf⟩
  · exact .inl e
  · obtain ⟨b1, b2⟩ := k.2 g rfl
    exact .inr ⟨g, c, rfl, Nat.lt_of_lt_of_le hg h2, fun i r hr => by rw [(hc g _ b1 b2).1, (hc g _ b1 b2).1]; exact hi' i r hr, fun o => by rw [(hc g o b1 b2).2, hf]⟩
theorem HL.wide {v : Value} {l : List Hdr} {lo hi lo' hi' : Nat} {X : World} (k : HL v l lo hi X) (h1 : lo' ≤ lo) (h2 : hi ≤ hi') : HL v l lo' hi' X := ⟨k.1, fun b hb => by have := k.2 b hb; omega⟩
theorem RowH.at {w : World} {base : Nat} {v : Value} {l : List Hdr} (h : RowH w base v l) : At base w.heap.size (HL v l) w :=
  ⟨Nat.le_refl _, HL.dep _ _ _ _, (OwnH.lv h).1, fun b hb => ⟨(OwnH.lv h).2 b hb, (World.ownsRow.lt h b hb).2⟩⟩
theorem HL.in {v : Value} {l : List Hdr} {lo hi : Nat} {X : World} {a : Option Addr} {n c : Nat} (k : HL v l lo hi X) (e : v = .slice a n c) : n = l.length ∧ HdsIn X a l := by
  subst e
  rcases k.1 with ⟨e, rfl⟩ | ⟨g, c', e, _, h, _⟩
  · simp only [Value.slice.injEq] at e
    obtain ⟨rfl, rfl, rfl⟩ := e
    exact ⟨rfl, .inl rfl⟩
  · simp only [Value.slice.injEq] at e
    obtain ⟨rfl, rfl, rfl⟩ := e
    exact ⟨rfl, .inr ⟨g, 0, rfl, h⟩⟩
end Go.Proofs.YtkchefbhpbpanaaGreatDoor
/-
  A new list, marked; held.
-/
namespace Go.Proofs.YtkchefbhpbpanaaGreatDoor
open Go.ChangeShapes Go.WideShapes Go.ChangeAt Go.RowKit Go.Sort
/-- l, marked from k on. -/
def mkdWr : Nat → List Wr → List Wr
  | _, [] => []
  | k, _ :: l => ⟨(k : Int), (((k : Int) + 1) % 3 == 0), (k : Int) + 1 + 1, (((k : Int) + 1 + 1 + 1) % 3 == 0)⟩ :: mkdWr (k + 4) l
theorem mkdWr_len : ∀ (l : List Wr) (k : Nat), (mkdWr k l).length = l.length
  | [], _ => rfl
  | _ :: l, k => by rw [mkdWr, List.length_cons, mkdWr_len l, List.length_cons]
theorem mkdWr_at : ∀ (l : List Wr) (k i : Nat), i < l.length → (mkdWr k l)[i]? = some ⟨((k + i * 4 : Nat) : Int), ((((k + i * 4 : Nat) : Int) + 1) % 3 == 0), ((k + i * 4 : Nat) : Int) + 1 + 1, ((((k + i * 4 : Nat) : Int) + 1 + 1 + 1) % 3 == 0)⟩
  | [], _, _, h => by simp at h
  | x :: l, k, 0, _ => by simp [mkdWr]
  | x :: l, k, i + 1, h => by
    rw [mkdWr, List.getElem?_cons_succ, mkdWr_at l (k + 4) i (by simpa using h), show k + 4 + i * 4 = k + (i + 1) * 4 by omega]
theorem mkdWr_append : ∀ (A B : List Wr) (k : Nat), mkdWr k (A ++ B) = mkdWr k A ++ mkdWr (k + A.length * 4) B
  | [], B, k => by simp [mkdWr]
  | x :: A, B, k => by rw [List.cons_append, mkdWr, mkdWr, List.cons_append, mkdWr_append A B (k + 4), List.length_cons, show k + 4 + A.length * 4 = k + (A.length + 1) * 4 by omega]
/-- The first i of l are marked from k on. -/
theorem WrAt.mark1 {w : World} {g off k i : Nat} {l : List Wr} (h : WrAt w g off (mkdWr k (l.take i) ++ l.drop i)) (hi : i < l.length) :
    WrAt (((((w.setCell ⟨g, off + i * 4, none⟩ (.int .i64 (((k + i * 4 : Nat) : Int)))).setCell ⟨g, off + i * 4 + 1, none⟩ (.bool ((((k + i * 4 : Nat) : Int) + 1) % 3 == 0))).setCell ⟨g, off + i * 4 + 2, none⟩ (.int .i64 (((k + i * 4 : Nat) : Int) + 1 + 1))).setCell ⟨g, off + i * 4 + 3, none⟩ (.bool ((((k + i * 4 : Nat) : Int) + 1 + 1 + 1) % 3 == 0)))) g off (mkdWr k (l.take (i + 1)) ++ l.drop (i + 1)) := by
  have len : (mkdWr k (l.take i) ++ l.drop i).length = l.length := by rw [List.length_append, mkdWr_len, ← List.length_append, List.take_append_drop]
  have lti : (l.take i).length = i := by rw [List.length_take]; omega
  have key : ∀ (q : Nat) r, (mkdWr k (l.take (i + 1)) ++ l.drop (i + 1))[q]? = some r → q = i ∧ r = ⟨((k + i * 4 : Nat) : Int), ((((k + i * 4 : Nat) : Int) + 1) % 3 == 0), ((k + i * 4 : Nat) : Int) + 1 + 1, ((((k + i * 4 : Nat) : Int) + 1 + 1 + 1) % 3 == 0)⟩ ∨ q ≠ i ∧ (mkdWr k (l.take i) ++ l.drop i)[q]? = some r := by
    intro q r hr
    have e1 : l.take (i + 1) = l.take i ++ [l[i]] := List.take_succ_eq_append_getElem hi
    rw [e1, mkdWr_append, lti, List.append_assoc] at hr
    rw [List.drop_eq_getElem_cons hi]
    by_cases h1 : q < i
    · refine .inr ⟨by omega, ?_⟩
      rw [List.getElem?_append_left (by rw [mkdWr_len, lti]; exact h1)] at hr ⊢
      exact hr
    · rw [List.getElem?_append_right (by rw [mkdWr_len, lti]; omega), mkdWr_len, lti] at hr
      by_cases h2 : q = i
      · subst h2
        left
        rw [Nat.sub_self] at hr
        simp only [mkdWr, List.singleton_append, List.getElem?_cons_zero, Option.some.injEq] at hr
        exact ⟨rfl, hr.symm⟩
      · right
        refine ⟨h2, ?_⟩
        rw [List.getElem?_append_right (by rw [mkdWr_len, lti]; omega), mkdWr_len, lti]
        obtain ⟨d, hd⟩ : ∃ d, q - i = d + 1 := ⟨q - i - 1, by omega⟩
        rw [hd] at hr ⊢
        simp [mkdWr] at hr ⊢
        rw [show i + (d + 1) = i + 1 + d by omega]
        exact hr
  have there : ∀ j, j < 4 → ∃ u, w.cell? ⟨g, off + i * 4 + j, none⟩ = some u := by
    intro j hj
    obtain ⟨r, hr⟩ : ∃ r, (mkdWr k (l.take i) ++ l.drop i)[i]? = some r := ⟨_, List.getElem?_eq_getElem (by rw [len]; exact hi)⟩
    obtain ⟨p0, p1, p2, p3⟩ := h i r hr
    match j, hj with
    | 0, _ => exact ⟨_, p0⟩
    | 1, _ => exact ⟨_, p1⟩
    | 2, _ => exact ⟨_, p2⟩
    | 3, _ => exact ⟨_, p3⟩
  intro q r hr
  rcases key q r hr with ⟨rfl, rfl⟩ | ⟨hq, hr2⟩
  · obtain ⟨u0, g0⟩ : ∃ u, (w).cell? ⟨g, off + q * 4, none⟩ = some u := by
      obtain ⟨u, hu⟩ := there 0 (by omega)
      exact ⟨u, by simpa using hu⟩
    obtain ⟨u1, g1⟩ : ∃ u, ((w.setCell ⟨g, off + q * 4, none⟩ (.int .i64 (((k + q * 4 : Nat) : Int))))).cell? ⟨g, off + q * 4 + 1, none⟩ = some u := by
      obtain ⟨u, hu⟩ := there 1 (by omega)
      refine ⟨u, ?_⟩
      rw [World.cell?_setCell_other _ _ _ _ (offWr_ne (by omega))]
      exact hu
    obtain ⟨u2, g2⟩ : ∃ u, (((w.setCell ⟨g, off + q * 4, none⟩ (.int .i64 (((k + q * 4 : Nat) : Int)))).setCell ⟨g, off + q * 4 + 1, none⟩ (.bool ((((k + q * 4 : Nat) : Int) + 1) % 3 == 0)))).cell? ⟨g, off + q * 4 + 2, none⟩ = some u := by
      obtain ⟨u, hu⟩ := there 2 (by omega)
      refine ⟨u, ?_⟩
      rw [World.cell?_setCell_other _ _ _ _ (offWr_ne (by omega)), World.cell?_setCell_other _ _ _ _ (offWr_ne (by omega))]
      exact hu
    obtain ⟨u3, g3⟩ : ∃ u, ((((w.setCell ⟨g, off + q * 4, none⟩ (.int .i64 (((k + q * 4 : Nat) : Int)))).setCell ⟨g, off + q * 4 + 1, none⟩ (.bool ((((k + q * 4 : Nat) : Int) + 1) % 3 == 0))).setCell ⟨g, off + q * 4 + 2, none⟩ (.int .i64 (((k + q * 4 : Nat) : Int) + 1 + 1)))).cell? ⟨g, off + q * 4 + 3, none⟩ = some u := by
      obtain ⟨u, hu⟩ := there 3 (by omega)
      refine ⟨u, ?_⟩
      rw [World.cell?_setCell_other _ _ _ _ (offWr_ne (by omega)), World.cell?_setCell_other _ _ _ _ (offWr_ne (by omega)), World.cell?_setCell_other _ _ _ _ (offWr_ne (by omega))]
      exact hu
    exact ⟨by rw [World.cell?_setCell_other _ _ _ _ (offWr_ne (by omega)), World.cell?_setCell_other _ _ _ _ (offWr_ne (by omega)), World.cell?_setCell_other _ _ _ _ (offWr_ne (by omega))]; exact World.cell?_setCell_same _ _ _ g0, by rw [World.cell?_setCell_other _ _ _ _ (offWr_ne (by omega)), World.cell?_setCell_other _ _ _ _ (offWr_ne (by omega))]; exact World.cell?_setCell_same _ _ _ g1, by rw [World.cell?_setCell_other _ _ _ _ (offWr_ne (by omega))]; exact World.cell?_setCell_same _ _ _ g2, by exact World.cell?_setCell_same _ _ _ g3⟩
  · obtain ⟨p0, p1, p2, p3⟩ := h q r hr2
    exact ⟨by rw [World.cell?_setCell_other _ _ _ _ (offWr_ne (by omega)), World.cell?_setCell_other _ _ _ _ (offWr_ne (by omega)), World.cell?_setCell_other _ _ _ _ (offWr_ne (by omega)), World.cell?_setCell_other _ _ _ _ (offWr_ne (by omega))]; exact p0, by rw [World.cell?_setCell_other _ _ _ _ (offWr_ne (by omega)), World.cell?_setCell_other _ _ _ _ (offWr_ne (by omega)), World.cell?_setCell_other _ _ _ _ (offWr_ne (by omega)), World.cell?_setCell_other _ _ _ _ (offWr_ne (by omega))]; exact p1, by rw [World.cell?_setCell_other _ _ _ _ (offWr_ne (by omega)), World.cell?_setCell_other _ _ _ _ (offWr_ne (by omega)), World.cell?_setCell_other _ _ _ _ (offWr_ne (by omega)), World.cell?_setCell_other _ _ _ _ (offWr_ne (by omega))]; exact p2, by rw [World.cell?_setCell_other _ _ _ _ (offWr_ne (by omega)), World.cell?_setCell_other _ _ _ _ (offWr_ne (by omega)), World.cell?_setCell_other _ _ _ _ (offWr_ne (by omega)), World.cell?_setCell_other _ _ _ _ (offWr_ne (by omega))]; exact p3⟩
set_option maxHeartbeats 4000000 in
theorem markWr_any (w : World) (a : Option Addr) (cap c0 : Nat) (hc0 : c0 ≤ 10000000000000) (l : List Wr) (hl : l.length ≤ 1048576) (g off : Nat) (h : l = [] ∨ a = some ⟨g, off, none⟩ ∧ WrAt w g off l ∧ ∀ o, o < off + l.length * 4 → w.frozen? ⟨g, o, none⟩ = false) :
    Calls Tryz.prog 53 #[.slice a l.length cap, .int .i64 (c0 : Int)] w fun e w' => e = .returned (.int .i64 ((c0 + l.length * 4 : Nat) : Int)) ∧ (l = [] ∨ WrAt w' g off (mkdWr c0 l)) ∧ OneB g w w' := by
  rcases h with rfl | ⟨rfl, hat, hfr⟩
  · go_enter Tryz.func53, Tryz.ntmps53
    go_wp2_with fail
    go_loopw [1, 5] (fun x i wr => i = .int .i64 0 ∧ x = .int .i64 (c0 : Int) ∧ wr = w) (fun _ _ _ => 0)
    case atStart => exact ⟨rfl, rfl, rfl⟩
    case round =>
      obtain ⟨rfl, rfl, rfl⟩ := hrel
      go_wp2_with fail
      go_ret
      exact ⟨by simp, .inl (by first | trivial | rfl), OneB.refl _ _⟩
  have HST : Hid (WrAt w g off l ∧ ∀ o, o < off + l.length * 4 → w.frozen? ⟨g, o, none⟩ = false) := ⟨hat, hfr⟩
  obtain ⟨n, hn⟩ : ∃ n, l.length = n := ⟨_, rfl⟩
  rw [hn] at hl HST ⊢
  have HN : Hid (l.length = n) := hn
  clear hn hat hfr
  go_enter Tryz.func53, Tryz.ntmps53
  go_wp2_with fail
  go_loopw [1, 5] (fun x y wr => ∃ i : Nat, i ≤ n ∧ y = .int .i64 (i : Int) ∧ x = .int .i64 ((c0 + i * 4 : Nat) : Int) ∧ WrAt wr g off (mkdWr c0 (l.take i) ++ l.drop i) ∧ OneB g w wr ∧ ∀ o, o < off + n * 4 → wr.frozen? ⟨g, o, none⟩ = false) (fun _ y _ => n - (intOf y).toNat)
  case atStart => exact ⟨0, Nat.zero_le _, rfl, by simp, by simpa [mkdWr] using HST.out.1, OneB.refl _ _, HST.out.2⟩
  case round =>
    obtain ⟨i, hi, rfl, rfl, hat, hone, hfr⟩ := hrel
    clear HST
    by_cases hlt : i < n
    · obtain ⟨r, hr⟩ : ∃ r, (mkdWr c0 (l.take i) ++ l.drop i)[i]? = some r := ⟨_, List.getElem?_eq_getElem (by rw [List.length_append, mkdWr_len, ← List.length_append, List.take_append_drop, HN.out]; exact hlt)⟩
      obtain ⟨p0, p1, p2, p3⟩ := hat i r hr
      have HA := hat.mark1 (by rw [HN.out]; exact hlt)
      obtain ⟨c, hc⟩ : ∃ c, c0 + i * 4 = c := ⟨_, rfl⟩
      have hcb : c ≤ 10000004194304 := by omega
      rw [hc] at HA ⊢
      have HA2 : Hid (WrAt (((((wr.setCell ⟨g, off + i * 4, none⟩ (.int .i64 ((c : Int)))).setCell ⟨g, off + i * 4 + 1, none⟩ (.bool (((c : Int) + 1) % 3 == 0))).setCell ⟨g, off + i * 4 + 2, none⟩ (.int .i64 ((c : Int) + 1 + 1))).setCell ⟨g, off + i * 4 + 3, none⟩ (.bool (((c : Int) + 1 + 1 + 1) % 3 == 0)))) g off (mkdWr c0 (l.take (i + 1)) ++ l.drop (i + 1))) := HA
      have HO : Hid (OneB g w wr) := hone
      have HC : Hid (c0 + (i + 1) * 4 = c + 4) := by show _ = _; omega
      have gk : (i : Int) < n := by omega
      have gk0 : (0 : Int) ≤ i := by omega
      have f0 := hfr (off + i * 4) (by omega)
      have f1 := hfr (off + i * 4 + 1) (by omega)
      have f2 := hfr (off + i * 4 + 2) (by omega)
      have f3 := hfr (off + i * 4 + 3) (by omega)
      have w0 : IntKind.i64.wrap ((c : Int) + 1) = (c : Int) + 1 := by rw [IntKind.wrap_i64]; omega
      have w1 : IntKind.i64.wrap ((c : Int) + 1 + 1) = (c : Int) + 1 + 1 := by rw [IntKind.wrap_i64]; omega
      have w2 : IntKind.i64.wrap ((c : Int) + 1 + 1 + 1) = (c : Int) + 1 + 1 + 1 := by rw [IntKind.wrap_i64]; omega
      have w3 : IntKind.i64.wrap ((c : Int) + 1 + 1 + 1 + 1) = (c : Int) + 1 + 1 + 1 + 1 := by rw [IntKind.wrap_i64]; omega
      have HFR : Hid (∀ o, o < off + n * 4 → wr.frozen? ⟨g, o, none⟩ = false) := hfr
      clear hat hr HA hone hc hfr
      go_wp2_with fail
      go_roundw
      case rel => exact ⟨i + 1, by omega, by go_num, by rw [HC.out]; go_num, HA2.out, (((HO.out.trans (OneB.set _ _ _ _)).trans (OneB.set _ _ _ _)).trans (OneB.set _ _ _ _)).trans (OneB.set _ _ _ _), fun o ho => by rw [World.frozen?_setCell]; rw [World.frozen?_setCell]; rw [World.frozen?_setCell]; rw [World.frozen?_setCell]; exact HFR.out o ho⟩
      case measure => simp [intOf]; omega
    · have HF : Hid (WrAt wr g off (mkdWr c0 l)) := by
        have e : l.take i = l := List.take_of_length_le (by have := HN.out; omega)
        have e2 : l.drop i = [] := List.drop_of_length_le (by have := HN.out; omega)
        rw [e, e2, List.append_nil] at hat
        exact hat
      have ei : i = n := by omega
      subst ei
      have HO : Hid (OneB g w wr) := hone
      clear hat hone hfr HN
      go_wp2_with fail
      go_ret
      exact ⟨rfl, .inr HF.out, HO.out⟩
set_option maxHeartbeats 4000000 in
theorem heldWr_any (w : World) (a : Option Addr) (cap c0 : Nat) (hc0 : c0 ≤ 10000000000000) (l : List Wr) (hl : l.length ≤ 1048576) (h : WrIn w a (mkdWr c0 l)) :
    Calls Tryz.prog 58 #[.slice a l.length cap, .int .i64 (c0 : Int)] w fun e w' => e = .returned (.int .i64 ((c0 + l.length * 4 : Nat) : Int)) ∧ w' = w := by
  have HST : Hid (WrIn w a (mkdWr c0 l)) := h
  have HML : Hid (∀ i, i < l.length → (mkdWr c0 l)[i]? = some ⟨((c0 + i * 4 : Nat) : Int), ((((c0 + i * 4 : Nat) : Int) + 1) % 3 == 0), ((c0 + i * 4 : Nat) : Int) + 1 + 1, ((((c0 + i * 4 : Nat) : Int) + 1 + 1 + 1) % 3 == 0)⟩) := fun i hi => mkdWr_at l c0 i hi
  obtain ⟨n, hn⟩ : ∃ n, l.length = n := ⟨_, rfl⟩
  rw [hn] at hl HML ⊢
  clear hn h
  go_enter Tryz.func58, Tryz.ntmps58
  go_wp2_with fail
  go_loopw [1, 5] (fun x y wr => ∃ i : Nat, i ≤ n ∧ y = .int .i64 (i : Int) ∧ x = .int .i64 ((c0 + i * 4 : Nat) : Int) ∧ wr = w) (fun _ y _ => n - (intOf y).toNat)
  case atStart => exact ⟨0, Nat.zero_le _, rfl, by simp, rfl⟩
  case round =>
    obtain ⟨i, hi, rfl, rfl, rfl⟩ := hrel
    by_cases hlt : i < n
    · have hr := HML.out i hlt
      rcases HST.out with h | ⟨b, off, rfl, hat⟩
      · rw [h] at hr; simp at hr
      obtain ⟨p0, p1, p2, p3⟩ := hat i _ hr
      simp only at p0 p1 p2 p3
      obtain ⟨c, hc⟩ : ∃ c, c0 + i * 4 = c := ⟨_, rfl⟩
      have hcb : c ≤ 10000004194304 := by omega
      rw [hc] at p0 p1 p2 p3 ⊢
      have HC : Hid (c0 + (i + 1) * 4 = c + 4) := by show _ = _; omega
      have gk : (i : Int) < n := by omega
      have gk0 : (0 : Int) ≤ i := by omega
      have w0 : IntKind.i64.wrap ((c : Int) + 1) = (c : Int) + 1 := by rw [IntKind.wrap_i64]; omega
      have w1 : IntKind.i64.wrap ((c : Int) + 1 + 1) = (c : Int) + 1 + 1 := by rw [IntKind.wrap_i64]; omega
      have w2 : IntKind.i64.wrap ((c : Int) + 1 + 1 + 1) = (c : Int) + 1 + 1 + 1 := by rw [IntKind.wrap_i64]; omega
      have w3 : IntKind.i64.wrap ((c : Int) + 1 + 1 + 1 + 1) = (c : Int) + 1 + 1 + 1 + 1 := by rw [IntKind.wrap_i64]; omega
      obtain ⟨b1, hb1⟩ : ∃ b, (((c : Int) + 1) % 3 == 0) = b := ⟨_, rfl⟩
      rw [hb1] at p1
      obtain ⟨b3, hb3⟩ : ∃ b, (((c : Int) + 1 + 1 + 1) % 3 == 0) = b := ⟨_, rfl⟩
      rw [hb3] at p3
      clear hr hat hc
      go_wp2_with fail
      go_roundw
      case rel => exact ⟨i + 1, by omega, by go_num, by rw [HC.out]; go_num, by first | trivial | rfl⟩
      case measure => simp [intOf]; omega
    · have ei : i = n := by omega
      subst ei
      clear HST HML
      go_wp2_with fail
      go_ret
      exact ⟨rfl, rfl⟩
end Go.Proofs.YtkchefbhpbpanaaGreatDoor
/-
  The laws' copy of head lines: what it holds may be written.
-/
namespace Go.Proofs.YtkchefbhpbpanaaGreatDoor
open Go.ChangeShapes Go.WideShapes Go.ChangeAt Go.RowKit Go.Sort
set_option maxHeartbeats 2000000 in
theorem toHeaderS_free (w : World) (a : Option Addr) (cap : Nat) (l : List Hdr) (hl : l.length ≤ 1048576) (hi : l = [] ∨ ∃ b off, a = some ⟨b, off, none⟩ ∧ HeadsAt w b off l) :
    Calls Tryz.prog 84 #[.slice a l.length cap] w fun e w' => e = .returned (.slice (some ⟨w.heap.size, 0, none⟩) l.length l.length) ∧ HeadsAt w' w.heap.size 0 l ∧ w.heap.size < w'.heap.size ∧ (∀ o, w'.frozen? ⟨w.heap.size, o, none⟩ = false) ∧ Below w.heap.size w w' := by
  have HI : Hid (l = [] ∨ ∃ b off, a = some ⟨b, off, none⟩ ∧ HeadsAt w b off l) := hi
  obtain ⟨i0, hi0, hz0, hz1, hz2⟩ := info_parts infoHeader
  clear hi
  generalize hn : l.length = n at *
  have HN : Hid (l.length = n) := hn
  clear hn
  go_enter Tryz.func84, Tryz.ntmps84
  go_wp2_with (at_make; refine wpList_make_full w rfl _ _ 31 rfl w.heap.size 153 i0 _ 2 Tryz.underlying31 hi0 hz0 hz1 _ _ _ _ n rfl rfl rfl rfl (by rw [hz2]; omega) (by unfold maxLen; omega) (Nat.le_refl _) ?_; intro w1 hown hgrow)
  have HR1 : Hid (HRoom w1 w.heap.size (n * 2) ∧ (w.heap.size < w1.heap.size ∧ ∀ o, w1.frozen? ⟨w.heap.size, o, none⟩ = false) ∧ Below w.heap.size w w1) := by
    refine ⟨fun j hj => ⟨?_, hown.frozenAt j⟩, ⟨?lt, fun o => hown.frozenAt o⟩, (Below.refl _ _).grown hgrow (Nat.le_refl _) (fun q hq => by cases hq)⟩
    case lt =>
      obtain ⟨_, h | ⟨g, c, cur, e, _, hh, _⟩⟩ := hown
      · cases h.1
      · simp only [Value.slice.injEq, Option.some.injEq] at e
        have e1 := congrArg Addr.block e.1
        simp only at e1
        rw [e1]
        exact (Array.getElem?_eq_some_iff.1 hh).1
    have h1 := hown.cellAt j hj
    have h2 : j < (madeCells (Value.agg #[.string ⟨#[]⟩, .string ⟨#[]⟩]).cells (n * 2)).toList.length := by have := hown.1; omega
    exact ⟨_, h1.trans (List.getElem?_eq_getElem h2)⟩
  clear hown hgrow
  go_loopw [4] (fun i wr => ∃ k : Nat, k ≤ n ∧ i = .int .i64 k ∧ HeadsAt wr w.heap.size 0 (l.take k) ∧ HRoom wr w.heap.size (n * 2) ∧ (w.heap.size < wr.heap.size ∧ ∀ o, wr.frozen? ⟨w.heap.size, o, none⟩ = false) ∧ Below w.heap.size w wr) (fun i _ => n - (intOf i).toNat)
  case atStart => exact ⟨0, Nat.zero_le _, rfl, fun i r hr => by simp at hr, HR1.out.1, HR1.out.2.1, HR1.out.2.2⟩
  case round =>
    obtain ⟨k, hk, rfl, hat, hroom, hfr, hb⟩ := hrel
    have HFR : Hid (w.heap.size < wr.heap.size ∧ ∀ o, wr.frozen? ⟨w.heap.size, o, none⟩ = false) := hfr
    clear hfr
    clear HR1
    by_cases hlt : k < n
    · obtain ⟨r, hr⟩ : ∃ r, l[k]? = some r := ⟨l[k]'(by have := HN.out; omega), List.getElem?_eq_getElem _⟩
      rcases HI.out with h | ⟨b, off, rfl, hsrc⟩
      · subst h; simp at hr
      have hblt : b < w.heap.size := block_lt_of_cell (hsrc k r hr).1
      have hkeep := (hsrc.keep (w' := w) (Below.refl _ _)) k r hr
      have p1 : wr.cell? ⟨b, off + k * 2, none⟩ = some (.string r.name) := by rw [hb.cell (p := ⟨b, off + k * 2, none⟩) hblt]; exact hkeep.1
      have p3 : wr.cell? ⟨b, off + k * 2 + 1, none⟩ = some (.string r.value) := by rw [hb.cell (p := ⟨b, off + k * 2 + 1, none⟩) hblt]; exact hkeep.2
      have HA : Hid (HeadsAt wr w.heap.size 0 (l.take k)) := hat
      have HM : Hid (HRoom wr w.heap.size (n * 2)) := hroom
      have HR : Hid (l[k]? = some r) := hr
      have g : (k : Int) < n := by omega
      clear hat hroom hr hsrc hkeep HI
      go_wp2_with fail
      refine (toHeader_any r _).mono ?_
      rintro e w2 ⟨rfl, hb2⟩
      have HA2 : Hid (HeadsAt w2 w.heap.size 0 (l.take k)) := HA.out.keep hb2
      have HM2 : Hid (HRoom w2 w.heap.size (n * 2)) := HM.out.keep hb2
      have hbb : Below w.heap.size w w2 := hb.trans (hb2.mono hb.size)
      have HFR2 : Hid (w.heap.size < w2.heap.size ∧ ∀ o, w2.frozen? ⟨w.heap.size, o, none⟩ = false) := ⟨Nat.lt_of_lt_of_le HFR.out.1 hb2.size, fun o => by rw [hb2.frozen (p := ⟨w.heap.size, o, none⟩) HFR.out.1]; exact HFR.out.2 o⟩
      obtain ⟨⟨u0, g0⟩, f0⟩ := HM2.out (k * 2) (by omega)
      obtain ⟨⟨u1, g1⟩, f1⟩ := HM2.out (k * 2 + 1) (by omega)
      have HP : Hid (HeadsAt (put2 w2 w.heap.size k r) w.heap.size 0 (l.take (k + 1)) ∧ HRoom (put2 w2 w.heap.size k r) w.heap.size (n * 2)) := ⟨HA2.out.put HR.out HM2.out hlt, HM2.out.put k r⟩
      clear HA HM HA2 HM2 hb2 hb p1 p3
      obtain ⟨rn, rv⟩ := r
      go_wp2_with fail
      go_roundw
      case rel => exact ⟨k + 1, by omega, by go_num, HP.out.1, HP.out.2, ⟨by simpa using HFR2.out.1, fun o => by rw [World.frozen?_setCell, World.frozen?_setCell]; exact HFR2.out.2 o⟩, (hbb.setCell (Nat.le_refl _) _).setCell (Nat.le_refl _) _⟩
      case measure => simp [intOf]; omega
    · have HF : Hid (HeadsAt wr w.heap.size 0 l) := by
        have e : l.take k = l := List.take_of_length_le (by have := HN.out; omega)
        rw [e] at hat
        exact hat
      clear hat hroom
      go_wp2_with fail
      go_ret
      exact ⟨rfl, HF.out, HFR.out.1, HFR.out.2, hb⟩
end Go.Proofs.YtkchefbhpbpanaaGreatDoor
/-
  Requests that came in: measured, taken over, compared.
-/
namespace Go.Proofs.YtkchefbhpbpanaaGreatDoor
open Go.ChangeShapes Go.WideShapes Go.ChangeAt Go.RowKit
/-- Lines of the law's own, that may be written. -/
structure QMine (W : World) (B : Nat) (l : List Hdr) : Prop where
  at0 : HeadsAt W B 0 l
  free : ∀ o, W.frozen? ⟨B, o, none⟩ = false
  lt : B < W.heap.size
theorem QMine.keep {W W' : World} {B : Nat} {l : List Hdr} (h : QMine W B l) (hb : Below W.heap.size W W') : QMine W' B l :=
  ⟨h.at0.keep hb, fun o => by rw [hb.frozen (p := ⟨B, o, none⟩) h.lt]; exact h.free o, Nat.lt_of_lt_of_le h.lt hb.size⟩
def szRq (left : Int) (m h p : ByteArray) (l : List Hdr) : Int :=
  if left - (m.size : Int) < 0 then -1 else if left - (m.size : Int) - (h.size : Int) < 0 then -1 else if left - (m.size : Int) - (h.size : Int) - (p.size : Int) < 0 then -1 else
    if szHL (left - (m.size : Int) - (h.size : Int) - (p.size : Int)) l < 0 then -1 else szHL (left - (m.size : Int) - (h.size : Int) - (p.size : Int)) l
theorem szRq_room {left : Int} {m h p : ByteArray} {l : List Hdr} (hl : left ≤ 1048576) (hz : ¬ szRq left m h p l < 0) : m.size ≤ 1048576 ∧ h.size ≤ 1048576 ∧ p.size ≤ 1048576 ∧ l.length ≤ 1048576 ∧ szRq left m h p l ≤ left := by
  unfold szRq at hz ⊢
  by_cases c1 : left - (m.size : Int) < 0
  · rw [if_pos c1] at hz; omega
  rw [if_neg c1] at hz ⊢
  by_cases c2 : left - (m.size : Int) - (h.size : Int) < 0
  · rw [if_pos c2] at hz; omega
  rw [if_neg c2] at hz ⊢
  by_cases c3 : left - (m.size : Int) - (h.size : Int) - (p.size : Int) < 0
  · rw [if_pos c3] at hz; omega
  rw [if_neg c3] at hz ⊢
  by_cases c4 : szHL (left - (m.size : Int) - (h.size : Int) - (p.size : Int)) l < 0
  · rw [if_pos c4] at hz; omega
  rw [if_neg c4] at hz ⊢
  have a := (szHL_room (by omega) c4).1
  have b := szHL_le c4
  exact ⟨by omega, by omega, by omega, by omega, by omega⟩
set_option maxHeartbeats 2000000 in
theorem szRequest_any (w : World) (m h p : ByteArray) (a : Option Addr) (cap : Nat) (l : List Hdr) (z1 : m.size ≤ maxLen) (z2 : h.size ≤ maxLen) (z3 : p.size ≤ maxLen) (hl : l.length ≤ maxLen) (hz : SmallHdrs l) (hi : HdsIn w a l) (left : Int) (h0 : 0 ≤ left) (h1 : left ≤ 1048576) :
    Calls Tryz.prog 36 #[.agg #[.string m, .string h, .string p, .slice a l.length cap], .int .i64 left] w fun e w' => e = .returned (.int .i64 (szRq left m h p l)) ∧ Below w.heap.size w w' := by
  have HE : Hid (szRq left m h p l = _) := show szRq left m h p l = _ from rfl
  unfold szRq at HE
  obtain ⟨W, hW⟩ : ∃ W, W = w.alloc (.cells #[.string m, .string h, .string p, .slice a l.length cap] 24) := ⟨_, rfl⟩
  have HW : Hid (W = w.alloc (.cells #[.string m, .string h, .string p, .slice a l.length cap] 24)) := hW
  have bW : Below w.heap.size w W := by rw [hW]; exact (Below.refl _ _).alloc (Nat.le_refl _) _
  have HB : Hid (Below w.heap.size w W) := bW
  unfold maxLen at z1 z2 z3
  by_cases c1 : left - (m.size : Int) < 0
  · have HV : Hid (szRq left m h p l = -1) := by show _ = _; unfold szRq; rw [if_pos c1]
    rw [HW.out] at HB
    clear HE hW bW HW hi hz
    generalize l.length = n at *
    go_enter Tryz.func36, Tryz.ntmps36
    go_wp2_with fail
    go_ret
    exact ⟨ret_int HV.out.symm, HB.out⟩
  by_cases c2 : left - (m.size : Int) - (h.size : Int) < 0
  · have HV : Hid (szRq left m h p l = -1) := by show _ = _; unfold szRq; rw [if_neg c1, if_pos c2]
    rw [HW.out] at HB
    clear HE hW bW HW hi hz
    generalize l.length = n at *
    go_enter Tryz.func36, Tryz.ntmps36
    go_wp2_with fail
    go_ret
    exact ⟨ret_int HV.out.symm, HB.out⟩
  by_cases c3 : left - (m.size : Int) - (h.size : Int) - (p.size : Int) < 0
  · have HV : Hid (szRq left m h p l = -1) := by show _ = _; unfold szRq; rw [if_neg c1, if_neg c2, if_pos c3]
    rw [HW.out] at HB
    clear HE hW bW HW hi hz
    generalize l.length = n at *
    go_enter Tryz.func36, Tryz.ntmps36
    go_wp2_with fail
    go_ret
    exact ⟨ret_int HV.out.symm, HB.out⟩
  have C := szHeaderS_any W a cap l hl (hi.keep bW) hz (left - (m.size : Int) - (h.size : Int) - (p.size : Int)) (by omega) (by omega)
  have HV1 : Hid (szHL (left - (m.size : Int) - (h.size : Int) - (p.size : Int)) l < 0 → szRq left m h p l = -1) := fun c => by unfold szRq; rw [if_neg c1, if_neg c2, if_neg c3, if_pos c]
  have HV2 : Hid (¬ szHL (left - (m.size : Int) - (h.size : Int) - (p.size : Int)) l < 0 → szRq left m h p l = szHL (left - (m.size : Int) - (h.size : Int) - (p.size : Int)) l) := fun c => by unfold szRq; rw [if_neg c1, if_neg c2, if_neg c3, if_neg c]
  clear HE hW bW hi hz
  generalize szHL (left - (m.size : Int) - (h.size : Int) - (p.size : Int)) l = z at *
  generalize l.length = n at *
  go_enter Tryz.func36, Tryz.ntmps36
  go_wp2_with fail
  rw [← HW.out]
  refine C.mono ?_
  rintro e w1 ⟨rfl, hb1⟩
  have HB1 : Hid (Below w.heap.size w w1) := HB.out.trans (hb1.mono HB.out.size)
  clear hb1 HB C HW
  by_cases c4 : z < 0
  · have HV := HV1.out c4
    have HV' : Hid (szRq left m h p l = -1) := HV
    clear HV HV1 HV2
    go_wp2_with fail
    go_ret
    exact ⟨ret_int HV'.out.symm, HB1.out⟩
  · have HV' : Hid (szRq left m h p l = z) := HV2.out (by omega)
    clear HV1 HV2
    go_wp2_with fail
    go_ret
    exact ⟨ret_int HV'.out.symm, HB1.out⟩
/-- Four cells of a block, laid out. -/
structure Four (W : World) (B : Nat) (v0 v1 v2 v3 : Value) : Prop where
  c0 : W.cell? ⟨B, 0, none⟩ = some v0
  c1 : W.cell? ⟨B, 1, none⟩ = some v1
  c2 : W.cell? ⟨B, 2, none⟩ = some v2
  c3 : W.cell? ⟨B, 3, none⟩ = some v3
  fr : ∀ o, W.frozen? ⟨B, o, none⟩ = false
  lt : B < W.heap.size
theorem Four.keep {W W' : World} {B : Nat} {v0 v1 v2 v3 : Value} (h : Four W B v0 v1 v2 v3) (hb : Below W.heap.size W W') : Four W' B v0 v1 v2 v3 :=
  ⟨by rw [hb.cell (p := ⟨B, 0, none⟩) h.lt]; exact h.c0, by rw [hb.cell (p := ⟨B, 1, none⟩) h.lt]; exact h.c1, by rw [hb.cell (p := ⟨B, 2, none⟩) h.lt]; exact h.c2, by rw [hb.cell (p := ⟨B, 3, none⟩) h.lt]; exact h.c3,
    fun o => by rw [hb.frozen (p := ⟨B, o, none⟩) h.lt]; exact h.fr o, Nat.lt_of_lt_of_le h.lt hb.size⟩
theorem Four.new (W : World) (v0 v1 v2 v3 : Value) (t : TypeId) : Four (W.alloc (.cells #[v0, v1, v2, v3] t)) W.heap.size v0 v1 v2 v3 :=
  ⟨by rw [World.cell?_alloc_mark]; rfl, by rw [World.cell?_alloc_mark]; rfl, by rw [World.cell?_alloc_mark]; rfl, by rw [World.cell?_alloc_mark]; rfl, fun o => by have e := heap_alloc_new W (.cells #[v0, v1, v2, v3] t); unfold World.frozen?; rw [e]; simp, by simp⟩
set_option maxHeartbeats 2000000 in
theorem toRequest_any (w : World) (m h p : ByteArray) (a : Option Addr) (cap : Nat) (l : List Hdr) (hl : l.length ≤ 1048576) (hi : HdsIn w a l) :
    Calls Tryz.prog 42 #[.agg #[.string m, .string h, .string p, .slice a l.length cap]] w fun e w' => e = .returned (.agg #[.string m, .string h, .string p, .slice (some ⟨w.heap.size + 3, 0, none⟩) l.length l.length]) ∧ QMine w' (w.heap.size + 3) l ∧ Below w.heap.size w w' := by
  obtain ⟨W, hW⟩ : ∃ W, W = ((w.alloc (.cells #[.string m, .string h, .string p, .slice a l.length cap] 24)).alloc (.cells #[.string ⟨#[]⟩, .string ⟨#[]⟩, .string ⟨#[]⟩, .slice none 0 0] 33)).alloc (.cells #[.string m, .string h, .string p, .slice none 0 0] 33) := ⟨_, rfl⟩
  have HW : Hid (W = ((w.alloc (.cells #[.string m, .string h, .string p, .slice a l.length cap] 24)).alloc (.cells #[.string ⟨#[]⟩, .string ⟨#[]⟩, .string ⟨#[]⟩, .slice none 0 0] 33)).alloc (.cells #[.string m, .string h, .string p, .slice none 0 0] 33)) := hW
  have bW : Below w.heap.size w W := by rw [hW]; exact (((Below.refl _ _).alloc (Nat.le_refl _) _).alloc (by simp) _).alloc (by simp; omega) _
  have hsz : W.heap.size = w.heap.size + 3 := by rw [hW]; simp
  have f2 : Four W (w.heap.size + 2) (.string m) (.string h) (.string p) (.slice none 0 0) := by
    rw [hW]
    have := Four.new ((w.alloc (.cells #[.string m, .string h, .string p, .slice a l.length cap] 24)).alloc (.cells #[.string ⟨#[]⟩, .string ⟨#[]⟩, .string ⟨#[]⟩, .slice none 0 0] 33)) (.string m) (.string h) (.string p) (.slice none 0 0) 33
    simpa using this
  have f1 : Four W (w.heap.size + 1) (.string ⟨#[]⟩) (.string ⟨#[]⟩) (.string ⟨#[]⟩) (.slice none 0 0) := by
    rw [hW]
    have := (Four.new (w.alloc (.cells #[.string m, .string h, .string p, .slice a l.length cap] 24)) (.string ⟨#[]⟩) (.string ⟨#[]⟩) (.string ⟨#[]⟩) (.slice none 0 0) 33).keep ((Below.refl _ _).alloc (Nat.le_refl _) (.cells #[.string m, .string h, .string p, .slice none 0 0] 33))
    simpa using this
  have C := toHeaderS_free W a cap l hl (hi.keep bW)
  rw [hsz] at C
  have HB : Hid (Below w.heap.size w W) := bW
  have HZ : Hid (W.heap.size = w.heap.size + 3) := hsz
  have F1 : Hid (Four W (w.heap.size + 1) (.string ⟨#[]⟩) (.string ⟨#[]⟩) (.string ⟨#[]⟩) (.slice none 0 0)) := f1
  have F2 : Hid (Four W (w.heap.size + 2) (.string m) (.string h) (.string p) (.slice none 0 0)) := f2
  clear hW bW hi hsz f1 f2
  generalize l.length = n at *
  go_enter Tryz.func42, Tryz.ntmps42
  go_wp2_with fail
  rw [← HW.out]
  refine C.mono ?_
  rintro e w1 ⟨rfl, hat, hlt, hfr, hb1⟩
  have hb1' : Below W.heap.size W w1 := by rw [HZ.out]; exact hb1
  obtain ⟨a0, a1, a2, a3, af, al⟩ := F2.out.keep hb1'
  obtain ⟨b0, b1, b2, b3, bf, bl⟩ := F1.out.keep hb1'
  have a3f := af 3
  have b0f := bf 0
  have b1f := bf 1
  have b2f := bf 2
  have b3f := bf 3
  have HM : Hid (QMine w1 (w.heap.size + 3) l) := ⟨hat, hfr, hlt⟩
  have HB1 : Hid (Below w.heap.size w w1) := HB.out.trans (hb1'.mono HB.out.size)
  have HQ : Hid (∀ W', (∀ o, W'.cell? ⟨w.heap.size + 3, o, none⟩ = w1.cell? ⟨w.heap.size + 3, o, none⟩) → (∀ o, W'.frozen? ⟨w.heap.size + 3, o, none⟩ = w1.frozen? ⟨w.heap.size + 3, o, none⟩) → W'.heap.size = w1.heap.size → QMine W' (w.heap.size + 3) l) := fun W' h1 h2 h3 =>
    ⟨fun i r hr => by rw [h1, h1]; exact hat i r hr, fun o => by rw [h2]; exact hfr o, by rw [h3]; exact hlt⟩
  clear hat hlt hfr hb1 hb1' C HW HB HZ F1 F2 af bf al bl HM
  go_wp2_with fail
  refine bodyPost_ret (v := .agg #[.string m, .string h, .string p, .slice (some ⟨w.heap.size + 3, 0, none⟩) n n]) ?_ rfl ⟨rfl, HQ.out _ (fun o => ?_) (fun o => ?_) ?_, ?_⟩
  · simp [results, Tryz.results42, go_sem, b0, b1, b2, b3]
  · have ne : ∀ k j : Nat, k < w.heap.size + 3 → (⟨k, j, none⟩ : Addr) ≠ ⟨w.heap.size + 3, o, none⟩ := fun k j hk e => by have := congrArg Addr.block e; simp only at this; omega
    rw [World.cell?_setCell_other _ _ _ _ (ne _ _ (by omega)), World.cell?_setCell_other _ _ _ _ (ne _ _ (by omega)), World.cell?_setCell_other _ _ _ _ (ne _ _ (by omega)), World.cell?_setCell_other _ _ _ _ (ne _ _ (by omega)), World.cell?_setCell_other _ _ _ _ (ne _ _ (by omega))]
  · simp only [World.frozen?_setCell]
  · simp
  · exact ((((HB1.out.setCell (by simp; omega) _).setCell (by simp) _).setCell (by simp) _).setCell (by simp) _).setCell (by simp) _
set_option maxHeartbeats 2000000 in
theorem eqRequest_same (W : World) (m h p : ByteArray) (b1 b2 : Nat) (l : List Hdr) (hl : l.length ≤ 1048576) (h1 : HeadsAt W b1 0 l) (h2 : HeadsAt W b2 0 l) :
    Calls Tryz.prog 50 #[.agg #[.string m, .string h, .string p, .slice (some ⟨b1, 0, none⟩) l.length l.length], .agg #[.string m, .string h, .string p, .slice (some ⟨b2, 0, none⟩) l.length l.length]] W fun e w' => e = .returned (.bool true) ∧ Below W.heap.size W w' := by
  have bW : Below W.heap.size W ((W.alloc (.cells #[.string m, .string h, .string p, .slice (some ⟨b1, 0, none⟩) l.length l.length] 33)).alloc (.cells #[.string m, .string h, .string p, .slice (some ⟨b2, 0, none⟩) l.length l.length] 33)) := ((Below.refl _ _).alloc (Nat.le_refl _) _).alloc (by simp) _
  have C := eqHeaderS_same _ b1 0 b2 0 l.length l.length l hl (h1.keep bW) (h2.keep bW)
  have HB : Hid (Below W.heap.size W _) := bW
  clear bW h1 h2
  generalize l.length = n at *
  go_enter Tryz.func50, Tryz.ntmps50
  go_wp2_with fail
  refine C.mono ?_
  rintro e w1 ⟨rfl, hb1⟩
  have HB1 : Hid (Below W.heap.size W w1) := HB.out.trans (hb1.mono HB.out.size)
  clear hb1 HB C
  go_wp2_with fail
  go_ret
  exact ⟨rfl, HB1.out⟩
end Go.Proofs.YtkchefbhpbpanaaGreatDoor
/-
  Flights, as they lie in memory.
-/
namespace Go.Proofs.YtkchefbhpbpanaaGreatDoor
open Go.ChangeShapes Go.WideShapes Go.ChangeAt Go.RowKit Go.Sort
/-- A flight, plainly. -/
structure Fl where
  id : Int
  key : ByteArray
  bk : Bool
  ot : Bool
  du : Int
  dm : Bool
  m : ByteArray
  h : ByteArray
  p : ByteArray
  hs : List Hdr
  ws : List Wr
/-- Where its lists lie. -/
structure FlR where
  ha : Option Addr
  hc : Nat
  wa : Option Addr
  wc : Nat
def flW (x : Fl) (r : FlR) : List Value := [.int .i64 x.id, .string x.key, .bool x.bk, .bool x.ot, .int .i64 x.du, .bool x.dm, .string x.m, .string x.h, .string x.p, .slice r.ha x.hs.length r.hc, .slice r.wa x.ws.length r.wc]
def flV (x : Fl) (r : FlR) : Value := .agg (flW x r).toArray
/-- Its lists, in a world. -/
structure FlIn (w : World) (x : Fl) (r : FlR) : Prop where
  h : HdsIn w r.ha x.hs
  k : WrIn w r.wa x.ws
  hc : x.hs.length ≤ r.hc
  wc : x.ws.length ≤ r.wc
theorem FlIn.keep {w w' : World} {x : Fl} {r : FlR} (k : FlIn w x r) (hb : Below w.heap.size w w') : FlIn w' x r := ⟨k.h.keep hb, k.k.keep hb, k.hc, k.wc⟩
/-- Flights one behind the other: eleven cells each. -/
def FlsAt (w : World) (b off : Nat) (l : List (Fl × FlR)) : Prop := ∀ (i : Nat) q, l[i]? = some q → (∀ j, j < 11 → w.cell? ⟨b, off + i * 11 + j, none⟩ = (flW q.1 q.2)[j]?) ∧ FlIn w q.1 q.2
theorem FlsAt.keep {w w' : World} {b off : Nat} {l : List (Fl × FlR)} (h : FlsAt w b off l) (hb : Below w.heap.size w w') : FlsAt w' b off l := by
  intro i q hq
  obtain ⟨h1, h2⟩ := h i q hq
  refine ⟨fun j hj => ?_, h2.keep hb⟩
  have c := h1 j hj
  have hlt : b < w.heap.size := by
    have c0 := h1 0 (by omega)
    exact block_lt_of_cell (c0.trans rfl)
  rw [hb.cell (p := ⟨b, off + i * 11 + j, none⟩) hlt]
  exact c
def FlsIn (w : World) (a : Option Addr) (l : List (Fl × FlR)) : Prop := l = [] ∨ ∃ b off, a = some ⟨b, off, none⟩ ∧ FlsAt w b off l
theorem FlsIn.keep {w w' : World} {a : Option Addr} {l : List (Fl × FlR)} (h : FlsIn w a l) (hb : Below w.heap.size w w') : FlsIn w' a l := by
  rcases h with h | ⟨b, off, e, h⟩
  · exact .inl h
  · exact .inr ⟨b, off, e, h.keep hb⟩
/-- Sizes that came in. -/
structure FlSm (x : Fl) : Prop where
  key : x.key.size ≤ maxLen
  m : x.m.size ≤ maxLen
  h : x.h.size ≤ maxLen
  p : x.p.size ≤ maxLen
  hl : x.hs.length ≤ maxLen
  hs : SmallHdrs x.hs
  wl : x.ws.length ≤ maxLen
/-- What fits. -/
structure FlFit (x : Fl) : Prop where
  key : x.key.size ≤ 1048576
  m : x.m.size ≤ 1048576
  hh : x.h.size ≤ 1048576
  p : x.p.size ≤ 1048576
  h : x.hs.length ≤ 1048576
  w : x.ws.length ≤ 1048576
theorem FlsAt.cells {w : World} {b off : Nat} {l : List (Fl × FlR)} (h : FlsAt w b off l) {i : Nat} {q : Fl × FlR} (hq : l[i]? = some q) : w.cell? ⟨b, off + i * 11, none⟩ = some (.int .i64 q.1.id) ∧ w.cell? ⟨b, off + i * 11 + 1, none⟩ = some (.string q.1.key) ∧ w.cell? ⟨b, off + i * 11 + 2, none⟩ = some (.bool q.1.bk) ∧ w.cell? ⟨b, off + i * 11 + 3, none⟩ = some (.bool q.1.ot) ∧ w.cell? ⟨b, off + i * 11 + 4, none⟩ = some (.int .i64 q.1.du) ∧ w.cell? ⟨b, off + i * 11 + 5, none⟩ = some (.bool q.1.dm) ∧ w.cell? ⟨b, off + i * 11 + 6, none⟩ = some (.string q.1.m) ∧ w.cell? ⟨b, off + i * 11 + 7, none⟩ = some (.string q.1.h) ∧ w.cell? ⟨b, off + i * 11 + 8, none⟩ = some (.string q.1.p) ∧ w.cell? ⟨b, off + i * 11 + 9, none⟩ = some (.slice q.2.ha q.1.hs.length q.2.hc) ∧ w.cell? ⟨b, off + i * 11 + 10, none⟩ = some (.slice q.2.wa q.1.ws.length q.2.wc) := by
  have c := (h i q hq).1
  exact ⟨c 0 (by omega), c 1 (by omega), c 2 (by omega), c 3 (by omega), c 4 (by omega), c 5 (by omega), c 6 (by omega), c 7 (by omega), c 8 (by omega), c 9 (by omega), c 10 (by omega)⟩
theorem FlsAt.in {w : World} {b off : Nat} {l : List (Fl × FlR)} (h : FlsAt w b off l) {i : Nat} {q : Fl × FlR} (hq : l[i]? = some q) : FlIn w q.1 q.2 := (h i q hq).2
/-- A flight that lies at a place. -/
def FlHere (w : World) (B O : Nat) (x : Fl) (r : FlR) : Prop := w.cell? ⟨B, O, none⟩ = some (.int .i64 x.id) ∧ w.cell? ⟨B, O + 1, none⟩ = some (.string x.key) ∧ w.cell? ⟨B, O + 2, none⟩ = some (.bool x.bk) ∧ w.cell? ⟨B, O + 3, none⟩ = some (.bool x.ot) ∧ w.cell? ⟨B, O + 4, none⟩ = some (.int .i64 x.du) ∧ w.cell? ⟨B, O + 5, none⟩ = some (.bool x.dm) ∧ w.cell? ⟨B, O + 6, none⟩ = some (.string x.m) ∧ w.cell? ⟨B, O + 7, none⟩ = some (.string x.h) ∧ w.cell? ⟨B, O + 8, none⟩ = some (.string x.p) ∧ w.cell? ⟨B, O + 9, none⟩ = some (.slice r.ha x.hs.length r.hc) ∧ w.cell? ⟨B, O + 10, none⟩ = some (.slice r.wa x.ws.length r.wc)
theorem FlHere.keep {w w' : World} {B O : Nat} {x : Fl} {r : FlR} (h : FlHere w B O x r) (hb : Below w.heap.size w w') : FlHere w' B O x r := by
  have hlt : B < w.heap.size := block_lt_of_cell h.1
  have hc : ∀ o, w'.cell? ⟨B, o, none⟩ = w.cell? ⟨B, o, none⟩ := fun o => hb.cell (p := ⟨B, o, none⟩) hlt
  unfold FlHere
  rw [hc, hc, hc, hc, hc, hc, hc, hc, hc, hc, hc]
  exact h
theorem FlsAt.here {w : World} {b off : Nat} {l : List (Fl × FlR)} (h : FlsAt w b off l) {i : Nat} {q : Fl × FlR} (hq : l[i]? = some q) : FlHere w b (off + i * 11) q.1 q.2 := h.cells hq
end Go.Proofs.YtkchefbhpbpanaaGreatDoor
/-
  Eleven cells that may be written.
-/
namespace Go.Proofs.YtkchefbhpbpanaaGreatDoor
open Go.ChangeShapes Go.WideShapes Go.ChangeAt Go.RowKit
structure E11 (w : World) (b : Nat) (v0 v1 v2 v3 v4 v5 v6 v7 v8 v9 v10 : Value) : Prop where
  c0 : w.cell? ⟨b, 0, none⟩ = some v0
  c1 : w.cell? ⟨b, 1, none⟩ = some v1
  c2 : w.cell? ⟨b, 2, none⟩ = some v2
  c3 : w.cell? ⟨b, 3, none⟩ = some v3
  c4 : w.cell? ⟨b, 4, none⟩ = some v4
  c5 : w.cell? ⟨b, 5, none⟩ = some v5
  c6 : w.cell? ⟨b, 6, none⟩ = some v6
  c7 : w.cell? ⟨b, 7, none⟩ = some v7
  c8 : w.cell? ⟨b, 8, none⟩ = some v8
  c9 : w.cell? ⟨b, 9, none⟩ = some v9
  c10 : w.cell? ⟨b, 10, none⟩ = some v10
  fr : ∀ o, w.frozen? ⟨b, o, none⟩ = false
  lt : b < w.heap.size
section
variable {w w' : World} {b : Nat} {v0 v1 v2 v3 v4 v5 v6 v7 v8 v9 v10 : Value}
theorem E11.keep (k : E11 w b v0 v1 v2 v3 v4 v5 v6 v7 v8 v9 v10) (hb : Below w.heap.size w w') : E11 w' b v0 v1 v2 v3 v4 v5 v6 v7 v8 v9 v10 :=
  ⟨by rw [hb.cell (p := ⟨b, 0, none⟩) k.lt]; exact k.c0, by rw [hb.cell (p := ⟨b, 1, none⟩) k.lt]; exact k.c1, by rw [hb.cell (p := ⟨b, 2, none⟩) k.lt]; exact k.c2, by rw [hb.cell (p := ⟨b, 3, none⟩) k.lt]; exact k.c3, by rw [hb.cell (p := ⟨b, 4, none⟩) k.lt]; exact k.c4, by rw [hb.cell (p := ⟨b, 5, none⟩) k.lt]; exact k.c5, by rw [hb.cell (p := ⟨b, 6, none⟩) k.lt]; exact k.c6, by rw [hb.cell (p := ⟨b, 7, none⟩) k.lt]; exact k.c7, by rw [hb.cell (p := ⟨b, 8, none⟩) k.lt]; exact k.c8, by rw [hb.cell (p := ⟨b, 9, none⟩) k.lt]; exact k.c9, by rw [hb.cell (p := ⟨b, 10, none⟩) k.lt]; exact k.c10, fun o => by rw [hb.frozen (p := ⟨b, o, none⟩) k.lt]; exact k.fr o, Nat.lt_of_lt_of_le k.lt hb.size⟩
theorem E11.low (k : E11 w b v0 v1 v2 v3 v4 v5 v6 v7 v8 v9 v10) {B : Nat} (hb : Below B w w') (h : b < B) : E11 w' b v0 v1 v2 v3 v4 v5 v6 v7 v8 v9 v10 :=
  ⟨by rw [hb.cell (p := ⟨b, 0, none⟩) h]; exact k.c0, by rw [hb.cell (p := ⟨b, 1, none⟩) h]; exact k.c1, by rw [hb.cell (p := ⟨b, 2, none⟩) h]; exact k.c2, by rw [hb.cell (p := ⟨b, 3, none⟩) h]; exact k.c3, by rw [hb.cell (p := ⟨b, 4, none⟩) h]; exact k.c4, by rw [hb.cell (p := ⟨b, 5, none⟩) h]; exact k.c5, by rw [hb.cell (p := ⟨b, 6, none⟩) h]; exact k.c6, by rw [hb.cell (p := ⟨b, 7, none⟩) h]; exact k.c7, by rw [hb.cell (p := ⟨b, 8, none⟩) h]; exact k.c8, by rw [hb.cell (p := ⟨b, 9, none⟩) h]; exact k.c9, by rw [hb.cell (p := ⟨b, 10, none⟩) h]; exact k.c10, fun o => by rw [hb.frozen (p := ⟨b, o, none⟩) h]; exact k.fr o, Nat.lt_of_lt_of_le k.lt hb.size⟩
theorem E11.new (w : World) (v0 v1 v2 v3 v4 v5 v6 v7 v8 v9 v10 : Value) (t : TypeId) : E11 (w.alloc (.cells #[v0, v1, v2, v3, v4, v5, v6, v7, v8, v9, v10] t)) w.heap.size v0 v1 v2 v3 v4 v5 v6 v7 v8 v9 v10 := ⟨by simp, by simp, by simp, by simp, by simp, by simp, by simp, by simp, by simp, by simp, by simp, fun o => by simp, by simp⟩
theorem E11.off (k : E11 w b v0 v1 v2 v3 v4 v5 v6 v7 v8 v9 v10) {B i : Nat} {x : Value} (h : B ≠ b) : E11 (w.setCell ⟨B, i, none⟩ x) b v0 v1 v2 v3 v4 v5 v6 v7 v8 v9 v10 := by
  have ne : ∀ o : Nat, (⟨B, i, none⟩ : Addr) ≠ ⟨b, o, none⟩ := fun o q => h (congrArg Addr.block q)
  exact ⟨by rw [World.cell?_setCell_other _ _ _ _ (ne _)]; exact k.c0, by rw [World.cell?_setCell_other _ _ _ _ (ne _)]; exact k.c1, by rw [World.cell?_setCell_other _ _ _ _ (ne _)]; exact k.c2, by rw [World.cell?_setCell_other _ _ _ _ (ne _)]; exact k.c3, by rw [World.cell?_setCell_other _ _ _ _ (ne _)]; exact k.c4, by rw [World.cell?_setCell_other _ _ _ _ (ne _)]; exact k.c5, by rw [World.cell?_setCell_other _ _ _ _ (ne _)]; exact k.c6, by rw [World.cell?_setCell_other _ _ _ _ (ne _)]; exact k.c7, by rw [World.cell?_setCell_other _ _ _ _ (ne _)]; exact k.c8, by rw [World.cell?_setCell_other _ _ _ _ (ne _)]; exact k.c9, by rw [World.cell?_setCell_other _ _ _ _ (ne _)]; exact k.c10, fun o => by rw [World.frozen?_setCell]; exact k.fr o, by simpa using k.lt⟩
theorem E11.set0 (k : E11 w b v0 v1 v2 v3 v4 v5 v6 v7 v8 v9 v10) (x : Value) : E11 (w.setCell ⟨b, 0, none⟩ x) b x v1 v2 v3 v4 v5 v6 v7 v8 v9 v10 :=
  ⟨World.cell?_setCell_same _ _ _ k.c0, by rw [World.cell?_setCell_other _ _ _ _ (by intro q; have := congrArg Addr.off q; simp at this)]; exact k.c1, by rw [World.cell?_setCell_other _ _ _ _ (by intro q; have := congrArg Addr.off q; simp at this)]; exact k.c2, by rw [World.cell?_setCell_other _ _ _ _ (by intro q; have := congrArg Addr.off q; simp at this)]; exact k.c3, by rw [World.cell?_setCell_other _ _ _ _ (by intro q; have := congrArg Addr.off q; simp at this)]; exact k.c4, by rw [World.cell?_setCell_other _ _ _ _ (by intro q; have := congrArg Addr.off q; simp at this)]; exact k.c5, by rw [World.cell?_setCell_other _ _ _ _ (by intro q; have := congrArg Addr.off q; simp at this)]; exact k.c6, by rw [World.cell?_setCell_other _ _ _ _ (by intro q; have := congrArg Addr.off q; simp at this)]; exact k.c7, by rw [World.cell?_setCell_other _ _ _ _ (by intro q; have := congrArg Addr.off q; simp at this)]; exact k.c8, by rw [World.cell?_setCell_other _ _ _ _ (by intro q; have := congrArg Addr.off q; simp at this)]; exact k.c9, by rw [World.cell?_setCell_other _ _ _ _ (by intro q; have := congrArg Addr.off q; simp at this)]; exact k.c10, fun o => by rw [World.frozen?_setCell]; exact k.fr o, by simpa using k.lt⟩
theorem E11.set1 (k : E11 w b v0 v1 v2 v3 v4 v5 v6 v7 v8 v9 v10) (x : Value) : E11 (w.setCell ⟨b, 1, none⟩ x) b v0 x v2 v3 v4 v5 v6 v7 v8 v9 v10 :=
  ⟨by rw [World.cell?_setCell_other _ _ _ _ (by intro q; have := congrArg Addr.off q; simp at this)]; exact k.c0, World.cell?_setCell_same _ _ _ k.c1, by rw [World.cell?_setCell_other _ _ _ _ (by intro q; have := congrArg Addr.off q; simp at this)]; exact k.c2, by rw [World.cell?_setCell_other _ _ _ _ (by intro q; have := congrArg Addr.off q; simp at this)]; exact k.c3, by rw [World.cell?_setCell_other _ _ _ _ (by intro q; have := congrArg Addr.off q; simp at this)]; exact k.c4, by rw [World.cell?_setCell_other _ _ _ _ (by intro q; have := congrArg Addr.off q; simp at this)]; exact k.c5, by rw [World.cell?_setCell_other _ _ _ _ (by intro q; have := congrArg Addr.off q; simp at this)]; exact k.c6, by rw [World.cell?_setCell_other _ _ _ _ (by intro q; have := congrArg Addr.off q; simp at this)]; exact k.c7, by rw [World.cell?_setCell_other _ _ _ _ (by intro q; have := congrArg Addr.off q; simp at this)]; exact k.c8, by rw [World.cell?_setCell_other _ _ _ _ (by intro q; have := congrArg Addr.off q; simp at this)]; exact k.c9, by rw [World.cell?_setCell_other _ _ _ _ (by intro q; have := congrArg Addr.off q; simp at this)]; exact k.c10, fun o => by rw [World.frozen?_setCell]; exact k.fr o, by simpa using k.lt⟩
theorem E11.set2 (k : E11 w b v0 v1 v2 v3 v4 v5 v6 v7 v8 v9 v10) (x : Value) : E11 (w.setCell ⟨b, 2, none⟩ x) b v0 v1 x v3 v4 v5 v6 v7 v8 v9 v10 :=
  ⟨by rw [World.cell?_setCell_other _ _ _ _ (by intro q; have := congrArg Addr.off q; simp at this)]; exact k.c0, by rw [World.cell?_setCell_other _ _ _ _ (by intro q; have := congrArg Addr.off q; simp at this)]; exact k.c1, World.cell?_setCell_same _ _ _ k.c2, by rw [World.cell?_setCell_other _ _ _ _ (by intro q; have := congrArg Addr.off q; simp at this)]; exact k.c3, by rw [World.cell?_setCell_other _ _ _ _ (by intro q; have := congrArg Addr.off q; simp at this)]; exact k.c4, by rw [World.cell?_setCell_other _ _ _ _ (by intro q; have := congrArg Addr.off q; simp at this)]; exact k.c5, by rw [World.cell?_setCell_other _ _ _ _ (by intro q; have := congrArg Addr.off q; simp at this)]; exact k.c6, by rw [World.cell?_setCell_other _ _ _ _ (by intro q; have := congrArg Addr.off q; simp at this)]; exact k.c7, by rw [World.cell?_setCell_other _ _ _ _ (by intro q; have := congrArg Addr.off q; simp at this)]; exact k.c8, by rw [World.cell?_setCell_other _ _ _ _ (by intro q; have := congrArg Addr.off q; simp at this)]; exact k.c9, by rw [World.cell?_setCell_other _ _ _ _ (by intro q; have := congrArg Addr.off q; simp at this)]; exact k.c10, fun o => by rw [World.frozen?_setCell]; exact k.fr o, by simpa using k.lt⟩
theorem E11.set3 (k : E11 w b v0 v1 v2 v3 v4 v5 v6 v7 v8 v9 v10) (x : Value) : E11 (w.setCell ⟨b, 3, none⟩ x) b v0 v1 v2 x v4 v5 v6 v7 v8 v9 v10 :=
  ⟨by rw [World.cell?_setCell_other _ _ _ _ (by intro q; have := congrArg Addr.off q; simp at this)]; exact k.c0, by rw [World.cell?_setCell_other _ _ _ _ (by intro q; have := congrArg Addr.off q; simp at this)]; exact k.c1, by rw [World.cell?_setCell_other _ _ _ _ (by intro q; have := congrArg Addr.off q; simp at this)]; exact k.c2, World.cell?_setCell_same _ _ _ k.c3, by rw [World.cell?_setCell_other _ _ _ _ (by intro q; have := congrArg Addr.off q; simp at this)]; exact k.c4, by rw [World.cell?_setCell_other _ _ _ _ (by intro q; have := congrArg Addr.off q; simp at this)]; exact k.c5, by rw [World.cell?_setCell_other _ _ _ _ (by intro q; have := congrArg Addr.off q; simp at this)]; exact k.c6, by rw [World.cell?_setCell_other _ _ _ _ (by intro q; have := congrArg Addr.off q; simp at this)]; exact k.c7, by rw [World.cell?_setCell_other _ _ _ _ (by intro q; have := congrArg Addr.off q; simp at this)]; exact k.c8, by rw [World.cell?_setCell_other _ _ _ _ (by intro q; have := congrArg Addr.off q; simp at this)]; exact k.c9, by rw [World.cell?_setCell_other _ _ _ _ (by intro q; have := congrArg Addr.off q; simp at this)]; exact k.c10, fun o => by rw [World.frozen?_setCell]; exact k.fr o, by simpa using k.lt⟩
theorem E11.set4 (k : E11 w b v0 v1 v2 v3 v4 v5 v6 v7 v8 v9 v10) (x : Value) : E11 (w.setCell ⟨b, 4, none⟩ x) b v0 v1 v2 v3 x v5 v6 v7 v8 v9 v10 :=
  ⟨by rw [World.cell?_setCell_other _ _ _ _ (by intro q; have := congrArg Addr.off q; simp at this)]; exact k.c0, by rw [World.cell?_setCell_other _ _ _ _ (by intro q; have := congrArg Addr.off q; simp at this)]; exact k.c1, by rw [World.cell?_setCell_other _ _ _ _ (by intro q; have := congrArg Addr.off q; simp at this)]; exact k.c2, by rw [World.cell?_setCell_other _ _ _ _ (by intro q; have := congrArg Addr.off q; simp at this)]; exact k.c3, World.cell?_setCell_same _ _ _ k.c4, by rw [World.cell?_setCell_other _ _ _ _ (by intro q; have := congrArg Addr.off q; simp at this)]; exact k.c5, by rw [World.cell?_setCell_other _ _ _ _ (by intro q; have := congrArg Addr.off q; simp at this)]; exact k.c6, by rw [World.cell?_setCell_other _ _ _ _ (by intro q; have := congrArg Addr.off q; simp at this)]; exact k.c7, by rw [World.cell?_setCell_other _ _ _ _ (by intro q; have := congrArg Addr.off q; simp at this)]; exact k.c8, by rw [World.cell?_setCell_other _ _ _ _ (by intro q; have := congrArg Addr.off q; simp at this)]; exact k.c9, by rw [World.cell?_setCell_other _ _ _ _ (by intro q; have := congrArg Addr.off q; simp at this)]; exact k.c10, fun o => by rw [World.frozen?_setCell]; exact k.fr o, by simpa using k.lt⟩
theorem E11.set5 (k : E11 w b v0 v1 v2 v3 v4 v5 v6 v7 v8 v9 v10) (x : Value) : E11 (w.setCell ⟨b, 5, none⟩ x) b v0 v1 v2 v3 v4 x v6 v7 v8 v9 v10 :=
  ⟨by rw [World.cell?_setCell_other _ _ _ _ (by intro q; have := congrArg Addr.off q; simp at this)]; exact k.c0, by rw [World.cell?_setCell_other _ _ _ _ (by intro q; have := congrArg Addr.off q; simp at this)]; exact k.c1, by rw [World.cell?_setCell_other _ _ _ _ (by intro q; have := congrArg Addr.off q; simp at this)]; exact k.c2, by rw [World.cell?_setCell_other _ _ _ _ (by intro q; have := congrArg Addr.off q; simp at this)]; exact k.c3, by rw [World.cell?_setCell_other _ _ _ _ (by intro q; have := congrArg Addr.off q; simp at this)]; exact k.c4, World.cell?_setCell_same _ _ _ k.c5, by rw [World.cell?_setCell_other _ _ _ _ (by intro q; have := congrArg Addr.off q; simp at this)]; exact k.c6, by rw [World.cell?_setCell_other _ _ _ _ (by intro q; have := congrArg Addr.off q; simp at this)]; exact k.c7, by rw [World.cell?_setCell_other _ _ _ _ (by intro q; have := congrArg Addr.off q; simp at this)]; exact k.c8, by rw [World.cell?_setCell_other _ _ _ _ (by intro q; have := congrArg Addr.off q; simp at this)]; exact k.c9, by rw [World.cell?_setCell_other _ _ _ _ (by intro q; have := congrArg Addr.off q; simp at this)]; exact k.c10, fun o => by rw [World.frozen?_setCell]; exact k.fr o, by simpa using k.lt⟩
theorem E11.set6 (k : E11 w b v0 v1 v2 v3 v4 v5 v6 v7 v8 v9 v10) (x : Value) : E11 (w.setCell ⟨b, 6, none⟩ x) b v0 v1 v2 v3 v4 v5 x v7 v8 v9 v10 :=
  ⟨by rw [World.cell?_setCell_other _ _ _ _ (by intro q; have := congrArg Addr.off q; simp at this)]; exact k.c0, by rw [World.cell?_setCell_other _ _ _ _ (by intro q; have := congrArg Addr.off q; simp at this)]; exact k.c1, by rw [World.cell?_setCell_other _ _ _ _ (by intro q; have := congrArg Addr.off q; simp at this)]; exact k.c2, by rw [World.cell?_setCell_other _ _ _ _ (by intro q; have := congrArg Addr.off q; simp at this)]; exact k.c3, by rw [World.cell?_setCell_other _ _ _ _ (by intro q; have := congrArg Addr.off q; simp at this)]; exact k.c4, by rw [World.cell?_setCell_other _ _ _ _ (by intro q; have := congrArg Addr.off q; simp at this)]; exact k.c5, World.cell?_setCell_same _ _ _ k.c6, by rw [World.cell?_setCell_other _ _ _ _ (by intro q; have := congrArg Addr.off q; simp at this)]; exact k.c7, by rw [World.cell?_setCell_other _ _ _ _ (by intro q; have := congrArg Addr.off q; simp at this)]; exact k.c8, by rw [World.cell?_setCell_other _ _ _ _ (by intro q; have := congrArg Addr.off q; simp at this)]; exact k.c9, by rw [World.cell?_setCell_other _ _ _ _ (by intro q; have := congrArg Addr.off q; simp at this)]; exact k.c10, fun o => by rw [World.frozen?_setCell]; exact k.fr o, by simpa using k.lt⟩
theorem E11.set7 (k : E11 w b v0 v1 v2 v3 v4 v5 v6 v7 v8 v9 v10) (x : Value) : E11 (w.setCell ⟨b, 7, none⟩ x) b v0 v1 v2 v3 v4 v5 v6 x v8 v9 v10 :=
  ⟨by rw [World.cell?_setCell_other _ _ _ _ (by intro q; have := congrArg Addr.off q; simp at this)]; exact k.c0, by rw [World.cell?_setCell_other _ _ _ _ (by intro q; have := congrArg Addr.off q; simp at this)]; exact k.c1, by rw [World.cell?_setCell_other _ _ _ _ (by intro q; have := congrArg Addr.off q; simp at this)]; exact k.c2, by rw [World.cell?_setCell_other _ _ _ _ (by intro q; have := congrArg Addr.off q; simp at this)]; exact k.c3, by rw [World.cell?_setCell_other _ _ _ _ (by intro q; have := congrArg Addr.off q; simp at this)]; exact k.c4, by rw [World.cell?_setCell_other _ _ _ _ (by intro q; have := congrArg Addr.off q; simp at this)]; exact k.c5, by rw [World.cell?_setCell_other _ _ _ _ (by intro q; have := congrArg Addr.off q; simp at this)]; exact k.c6, World.cell?_setCell_same _ _ _ k.c7, by rw [World.cell?_setCell_other _ _ _ _ (by intro q; have := congrArg Addr.off q; simp at this)]; exact k.c8, by rw [World.cell?_setCell_other _ _ _ _ (by intro q; have := congrArg Addr.off q; simp at this)]; exact k.c9, by rw [World.cell?_setCell_other _ _ _ _ (by intro q; have := congrArg Addr.off q; simp at this)]; exact k.c10, fun o => by rw [World.frozen?_setCell]; exact k.fr o, by simpa using k.lt⟩
theorem E11.set8 (k : E11 w b v0 v1 v2 v3 v4 v5 v6 v7 v8 v9 v10) (x : Value) : E11 (w.setCell ⟨b, 8, none⟩ x) b v0 v1 v2 v3 v4 v5 v6 v7 x v9 v10 :=
  ⟨by rw [World.cell?_setCell_other _ _ _ _ (by intro q; have := congrArg Addr.off q; simp at this)]; exact k.c0, by rw [World.cell?_setCell_other _ _ _ _ (by intro q; have := congrArg Addr.off q; simp at this)]; exact k.c1, by rw [World.cell?_setCell_other _ _ _ _ (by intro q; have := congrArg Addr.off q; simp at this)]; exact k.c2, by rw [World.cell?_setCell_other _ _ _ _ (by intro q; have := congrArg Addr.off q; simp at this)]; exact k.c3, by rw [World.cell?_setCell_other _ _ _ _ (by intro q; have := congrArg Addr.off q; simp at this)]; exact k.c4, by rw [World.cell?_setCell_other _ _ _ _ (by intro q; have := congrArg Addr.off q; simp at this)]; exact k.c5, by rw [World.cell?_setCell_other _ _ _ _ (by intro q; have := congrArg Addr.off q; simp at this)]; exact k.c6, by rw [World.cell?_setCell_other _ _ _ _ (by intro q; have := congrArg Addr.off q; simp at this)]; exact k.c7, World.cell?_setCell_same _ _ _ k.c8, by rw [World.cell?_setCell_other _ _ _ _ (by intro q; have := congrArg Addr.off q; simp at this)]; exact k.c9, by rw [World.cell?_setCell_other _ _ _ _ (by intro q; have := congrArg Addr.off q; simp at this)]; exact k.c10, fun o => by rw [World.frozen?_setCell]; exact k.fr o, by simpa using k.lt⟩
theorem E11.set9 (k : E11 w b v0 v1 v2 v3 v4 v5 v6 v7 v8 v9 v10) (x : Value) : E11 (w.setCell ⟨b, 9, none⟩ x) b v0 v1 v2 v3 v4 v5 v6 v7 v8 x v10 :=
  ⟨by rw [World.cell?_setCell_other _ _ _ _ (by intro q; have := congrArg Addr.off q; simp at this)]; exact k.c0, by rw [World.cell?_setCell_other _ _ _ _ (by intro q; have := congrArg Addr.off q; simp at this)]; exact k.c1, by rw [World.cell?_setCell_other _ _ _ _ (by intro q; have := congrArg Addr.off q; simp at this)]; exact k.c2, by rw [World.cell?_setCell_other _ _ _ _ (by intro q; have := congrArg Addr.off q; simp at this)]; exact k.c3, by rw [World.cell?_setCell_other _ _ _ _ (by intro q; have := congrArg Addr.off q; simp at this)]; exact k.c4, by rw [World.cell?_setCell_other _ _ _ _ (by intro q; have := congrArg Addr.off q; simp at this)]; exact k.c5, by rw [World.cell?_setCell_other _ _ _ _ (by intro q; have := congrArg Addr.off q; simp at this)]; exact k.c6, by rw [World.cell?_setCell_other _ _ _ _ (by intro q; have := congrArg Addr.off q; simp at this)]; exact k.c7, by rw [World.cell?_setCell_other _ _ _ _ (by intro q; have := congrArg Addr.off q; simp at this)]; exact k.c8, World.cell?_setCell_same _ _ _ k.c9, by rw [World.cell?_setCell_other _ _ _ _ (by intro q; have := congrArg Addr.off q; simp at this)]; exact k.c10, fun o => by rw [World.frozen?_setCell]; exact k.fr o, by simpa using k.lt⟩
theorem E11.set10 (k : E11 w b v0 v1 v2 v3 v4 v5 v6 v7 v8 v9 v10) (x : Value) : E11 (w.setCell ⟨b, 10, none⟩ x) b v0 v1 v2 v3 v4 v5 v6 v7 v8 v9 x :=
  ⟨by rw [World.cell?_setCell_other _ _ _ _ (by intro q; have := congrArg Addr.off q; simp at this)]; exact k.c0, by rw [World.cell?_setCell_other _ _ _ _ (by intro q; have := congrArg Addr.off q; simp at this)]; exact k.c1, by rw [World.cell?_setCell_other _ _ _ _ (by intro q; have := congrArg Addr.off q; simp at this)]; exact k.c2, by rw [World.cell?_setCell_other _ _ _ _ (by intro q; have := congrArg Addr.off q; simp at this)]; exact k.c3, by rw [World.cell?_setCell_other _ _ _ _ (by intro q; have := congrArg Addr.off q; simp at this)]; exact k.c4, by rw [World.cell?_setCell_other _ _ _ _ (by intro q; have := congrArg Addr.off q; simp at this)]; exact k.c5, by rw [World.cell?_setCell_other _ _ _ _ (by intro q; have := congrArg Addr.off q; simp at this)]; exact k.c6, by rw [World.cell?_setCell_other _ _ _ _ (by intro q; have := congrArg Addr.off q; simp at this)]; exact k.c7, by rw [World.cell?_setCell_other _ _ _ _ (by intro q; have := congrArg Addr.off q; simp at this)]; exact k.c8, by rw [World.cell?_setCell_other _ _ _ _ (by intro q; have := congrArg Addr.off q; simp at this)]; exact k.c9, World.cell?_setCell_same _ _ _ k.c10, fun o => by rw [World.frozen?_setCell]; exact k.fr o, by simpa using k.lt⟩
end
theorem E11.all {X : World} {b : Nat} {v0 v1 v2 v3 v4 v5 v6 v7 v8 v9 v10 : Value} (k : E11 X b v0 v1 v2 v3 v4 v5 v6 v7 v8 v9 v10) (x0 x1 x2 x3 x4 x5 x6 x7 x8 x9 x10 : Value) : E11 (((((((((((X.setCell ⟨b, 0, none⟩ x0).setCell ⟨b, 1, none⟩ x1).setCell ⟨b, 2, none⟩ x2).setCell ⟨b, 3, none⟩ x3).setCell ⟨b, 4, none⟩ x4).setCell ⟨b, 5, none⟩ x5).setCell ⟨b, 6, none⟩ x6).setCell ⟨b, 7, none⟩ x7).setCell ⟨b, 8, none⟩ x8).setCell ⟨b, 9, none⟩ x9).setCell ⟨b, 10, none⟩ x10) b x0 x1 x2 x3 x4 x5 x6 x7 x8 x9 x10 := (((((((((((k.set0 _).set1 _).set2 _).set3 _).set4 _).set5 _).set6 _).set7 _).set8 _).set9 _).set10 _)
end Go.Proofs.YtkchefbhpbpanaaGreatDoor
/-
  Flights, handed over by the laws: how much room they take.
-/
namespace Go.Proofs.YtkchefbhpbpanaaGreatDoor
open Go.ChangeShapes Go.WideShapes Go.ChangeAt Go.RowKit Go.Sort
/-- How much room is left behind a flight; -1: none. -/
def szF (left : Int) (key m h p : ByteArray) (hs : List Hdr) (n : Nat) : Int :=
  if left - (key.size : Int) < 0 then -1 else
  if szRq (left - (key.size : Int)) m h p hs < 0 then -1 else
  if szRq (left - (key.size : Int)) m h p hs - (n : Int) < 0 then -1 else szRq (left - (key.size : Int)) m h p hs - (n : Int)
theorem szF_room {left : Int} {key m h p : ByteArray} {hs : List Hdr} {n : Nat} (h1 : left ≤ 1048576) (hz : ¬ szF left key m h p hs n < 0) : key.size ≤ 1048576 ∧ m.size ≤ 1048576 ∧ h.size ≤ 1048576 ∧ p.size ≤ 1048576 ∧ hs.length ≤ 1048576 ∧ n ≤ 1048576 ∧ szF left key m h p hs n ≤ left := by
  unfold szF at hz ⊢
  by_cases c1 : left - (key.size : Int) < 0
  · rw [if_pos c1] at hz; omega
  rw [if_neg c1] at hz ⊢
  by_cases c2 : szRq (left - (key.size : Int)) m h p hs < 0
  · rw [if_pos c2] at hz; omega
  rw [if_neg c2] at hz ⊢
  by_cases c3 : szRq (left - (key.size : Int)) m h p hs - (n : Int) < 0
  · rw [if_pos c3] at hz; omega
  rw [if_neg c3]
  obtain ⟨a1, a2, a3, a4, a5⟩ := szRq_room (by omega) c2
  exact ⟨by omega, a1, a2, a3, a4, by omega, by omega⟩
set_option maxHeartbeats 4000000 in
theorem szFlight_any (w : World) (id : Int) (key : ByteArray) (bk ot : Bool) (du : Int) (dm : Bool) (m h p : ByteArray) (ha : Option Addr) (hc : Nat) (wa : Option Addr) (wc : Nat) (hs : List Hdr) (ws : List Wr) (left : Int) (h0 : 0 ≤ left) (h1 : left ≤ 1048576) (hk : key.size ≤ maxLen) (z1 : m.size ≤ maxLen) (z2 : h.size ≤ maxLen) (z3 : p.size ≤ maxLen) (hhl : hs.length ≤ maxLen) (hsm : SmallHdrs hs) (hwl : ws.length ≤ maxLen) (hH : HdsIn w ha hs) :
    Calls Tryz.prog 7 #[.agg #[.int .i64 id, .string key, .bool bk, .bool ot, .int .i64 du, .bool dm, .string m, .string h, .string p, .slice ha hs.length hc, .slice wa ws.length wc], .int .i64 left] w fun r w' => r = .returned (.int .i64 (szF left key m h p hs ws.length)) ∧ Below w.heap.size w w' := by
  have HZH : Hid (∀ W left', Below w.heap.size w W → 0 ≤ left' → left' ≤ 1048576 → Calls Tryz.prog 36 #[.agg #[.string m, .string h, .string p, .slice ha hs.length hc], .int .i64 left'] W fun r w' => r = .returned (.int .i64 (szRq left' m h p hs)) ∧ Below W.heap.size W w') := fun W left' hb a b => szRequest_any W m h p ha hc hs z1 z2 z3 hhl hsm (hH.keep hb) left' a b
  have HZB : Hid (∀ W left', 0 ≤ left' → left' ≤ 1048576 → Calls Tryz.prog 37 #[.slice wa ws.length wc, .int .i64 left'] W fun r w' => r = .returned (.int .i64 (szWr left' ws.length)) ∧ w' = W) := fun W left' a b => szWr_any W wa wc ws.length hwl left' a b
  have HLE : Hid (¬ szRq (left - (key.size : Int)) m h p hs < 0 → szRq (left - (key.size : Int)) m h p hs ≤ left - (key.size : Int)) := fun c => (szRq_room (by omega) c).2.2.2.2
  have HB0 : Hid (Below w.heap.size w (w.alloc (.cells #[.int .i64 id, .string key, .bool bk, .bool ot, .int .i64 du, .bool dm, .string m, .string h, .string p, .slice ha hs.length hc, .slice wa ws.length wc] 27))) := (Below.refl _ _).alloc (Nat.le_refl _) _
  have HC0 : Hid (E11 (w.alloc (.cells #[.int .i64 id, .string key, .bool bk, .bool ot, .int .i64 du, .bool dm, .string m, .string h, .string p, .slice ha hs.length hc, .slice wa ws.length wc] 27)) w.heap.size (.int .i64 id) (.string key) (.bool bk) (.bool ot) (.int .i64 du) (.bool dm) (.string m) (.string h) (.string p) (.slice ha hs.length hc) (.slice wa ws.length wc)) := E11.new w _ _ _ _ _ _ _ _ _ _ _ _
  unfold maxLen at hk
  obtain ⟨Z, hZ⟩ : ∃ Z, szF left key m h p hs ws.length = Z := ⟨_, rfl⟩
  rw [hZ]
  unfold szF at hZ
  have HSZ : Hid (_ = Z) := hZ
  clear hZ
  clear hH hsm hhl z1 z2 z3 hwl
  generalize hz1 : szRq (left - (key.size : Int)) m h p hs = y1 at *
  generalize hs.length = hl at *
  generalize ws.length = wn at *
  by_cases c1 : left - (key.size : Int) < 0
  · have HR := HSZ.out
    rw [if_pos c1] at HR
    rw [← HR]
    clear HSZ HR HLE
    go_enter Tryz.func7, Tryz.ntmps7
    go_wp2_with fail
    go_ret
    exact ⟨rfl, HB0.out⟩
  rw [if_neg c1] at HSZ
  by_cases c2 : y1 < 0
  · have HR := HSZ.out
    rw [if_pos c2] at HR
    rw [← HR]
    clear HSZ HR HLE
    go_enter Tryz.func7, Tryz.ntmps7
    go_wp2_with fail
    refine (HZH.out _ _ HB0.out (by omega) (by omega)).mono ?_
    rintro r w1 ⟨rfl, hb1⟩
    rw [hz1]
    have HB1 : Hid (Below w.heap.size w w1) := HB0.out.trans (hb1.mono HB0.out.size)
    clear hb1
    go_wp2_with fail
    go_ret
    exact ⟨rfl, HB1.out⟩
  rw [if_neg c2] at HSZ
  have hle := HLE.out c2
  have HZ1 : Hid (szRq (left - (key.size : Int)) m h p hs = y1) := hz1
  clear HLE hz1
  have HW : Hid (szWr y1 wn = Z) := by show _ = _; rw [← HSZ.out]; unfold szWr; rfl
  clear HSZ
  go_enter Tryz.func7, Tryz.ntmps7
  go_wp2_with fail
  refine (HZH.out _ _ HB0.out (by omega) (by omega)).mono ?_
  rintro r w1 ⟨rfl, hb1⟩
  rw [HZ1.out]
  have HB1 : Hid (Below w.heap.size w w1) := HB0.out.trans (hb1.mono HB0.out.size)
  have HC1 := HC0.out.keep hb1
  have q3 := HC1.c10
  clear hb1 HC1
  go_wp2_with fail
  refine (HZB.out _ _ (by omega) (by omega)).mono ?_
  rintro r w2 ⟨rfl, rfl⟩
  rw [HW.out]
  have hZ : Z = if y1 - (wn : Int) < 0 then -1 else y1 - (wn : Int) := by rw [← HW.out]; rfl
  by_cases c3 : y1 - (wn : Int) < 0
  · rw [if_pos c3] at hZ
    subst hZ
    go_wp2_with fail
    go_ret
    exact ⟨rfl, HB1.out⟩
  · rw [if_neg c3] at hZ
    have hz0 : ¬ Z < 0 := by omega
    clear HW HZ1 hZ
    go_wp2_with fail
    go_ret
    exact ⟨rfl, HB1.out⟩
theorem szFlight_q (w : World) (q : Fl × FlR) (left : Int) (h0 : 0 ≤ left) (h1 : left ≤ 1048576) (hs : FlSm q.1) (hi : FlIn w q.1 q.2) :
    Calls Tryz.prog 7 #[.agg #[.int .i64 q.1.id, .string q.1.key, .bool q.1.bk, .bool q.1.ot, .int .i64 q.1.du, .bool q.1.dm, .string q.1.m, .string q.1.h, .string q.1.p, .slice q.2.ha q.1.hs.length q.2.hc, .slice q.2.wa q.1.ws.length q.2.wc], .int .i64 left] w fun e w' => e = .returned (.int .i64 (szF left q.1.key q.1.m q.1.h q.1.p q.1.hs q.1.ws.length)) ∧ Below w.heap.size w w' :=
  szFlight_any w _ _ _ _ _ _ _ _ _ _ _ _ _ _ _ left h0 h1 hs.key hs.m hs.h hs.p hs.hl hs.hs hs.wl hi.h
def szFs (c : Int) : List (Fl × FlR) → Int
  | [] => c
  | q :: l => if szF c q.1.key q.1.m q.1.h q.1.p q.1.hs q.1.ws.length < 0 then -1 else szFs (szF c q.1.key q.1.m q.1.h q.1.p q.1.hs q.1.ws.length) l
def szFL (left : Int) (l : List (Fl × FlR)) : Int := if left - (l.length : Int) < 0 then -1 else szFs (left - (l.length : Int)) l
theorem szFs_room : ∀ (l : List (Fl × FlR)) (c : Int), c ≤ 1048576 → ¬ szFs c l < 0 → ∀ q ∈ l, FlFit q.1
  | [], _, _, _, q, hq => by simp at hq
  | x :: l, c, hc, hz, q, hq => by
    rw [szFs] at hz
    by_cases c1 : szF c x.1.key x.1.m x.1.h x.1.p x.1.hs x.1.ws.length < 0
    · rw [if_pos c1] at hz; omega
    rw [if_neg c1] at hz
    obtain ⟨a1, a2, a3, a4, a5, a6, a7⟩ := szF_room hc c1
    rcases List.mem_cons.1 hq with rfl | hq
    · exact ⟨a1, a2, a3, a4, a5, a6⟩
    · exact szFs_room l _ (by omega) hz q hq
theorem szFs_le : ∀ (l : List (Fl × FlR)) (c : Int), c ≤ 1048576 → ¬ szFs c l < 0 → szFs c l ≤ c
  | [], _, _, _ => by rw [szFs]; omega
  | x :: l, c, hc, hz => by
    rw [szFs] at hz ⊢
    by_cases c1 : szF c x.1.key x.1.m x.1.h x.1.p x.1.hs x.1.ws.length < 0
    · rw [if_pos c1] at hz; omega
    rw [if_neg c1] at hz ⊢
    obtain ⟨a1, a2, a3, a4, a5, a6, a7⟩ := szF_room hc c1
    have := szFs_le l _ (by omega) hz
    omega
theorem szFL_room {left : Int} {l : List (Fl × FlR)} (h1 : left ≤ 1048576) (hz : ¬ szFL left l < 0) : l.length ≤ 1048576 ∧ (∀ q ∈ l, FlFit q.1) ∧ szFL left l ≤ left ∧ 0 ≤ szFL left l := by
  unfold szFL at hz ⊢
  by_cases c : left - (l.length : Int) < 0
  · rw [if_pos c] at hz; omega
  rw [if_neg c] at hz ⊢
  have := szFs_le l _ (by omega) hz
  exact ⟨by omega, szFs_room l _ (by omega) hz, by omega, by omega⟩
end Go.Proofs.YtkchefbhpbpanaaGreatDoor
/-
  Flights, handed over by the laws: copies.
-/
namespace Go.Proofs.YtkchefbhpbpanaaGreatDoor
open Go.ChangeShapes Go.WideShapes Go.ChangeAt Go.RowKit Go.Sort
theorem QMine.off1 {W : World} {B b i : Nat} {l : List Hdr} (h : QMine W B l) (x : Value) (hne : b ≠ B) : QMine (W.setCell ⟨b, i, none⟩ x) B l := by
  have ne : ∀ o : Nat, (⟨b, i, none⟩ : Addr) ≠ ⟨B, o, none⟩ := fun o q => hne (congrArg Addr.block q)
  exact ⟨fun k r hr => by rw [World.cell?_setCell_other _ _ _ _ (ne _), World.cell?_setCell_other _ _ _ _ (ne _)]; exact h.at0 k r hr, fun o => by rw [World.frozen?_setCell]; exact h.free o, by simpa using h.lt⟩
/-- Waiters that lie in a block of their own. -/
structure WrMine (W : World) (B : Nat) (l : List Wr) : Prop where
  at0 : WrAt W B 0 l
  room : RoomWr W B (l.length * 4)
  lt : B < W.heap.size
theorem WrMine.keep {W W' : World} {B : Nat} {l : List Wr} (h : WrMine W B l) (hb : Below W.heap.size W W') : WrMine W' B l := ⟨h.at0.keep hb, h.room.keep hb, Nat.lt_of_lt_of_le h.lt hb.size⟩
theorem WrMine.in {W : World} {B : Nat} {l : List Wr} (h : WrMine W B l) : WrIn W (some ⟨B, 0, none⟩) l := .inr ⟨B, 0, rfl, h.at0⟩
theorem WrMine.off1 {W : World} {B b i : Nat} {l : List Wr} (h : WrMine W B l) (x : Value) (hne : b ≠ B) : WrMine (W.setCell ⟨b, i, none⟩ x) B l := by
  have ne : ∀ o : Nat, (⟨b, i, none⟩ : Addr) ≠ ⟨B, o, none⟩ := fun o q => hne (congrArg Addr.block q)
  exact ⟨fun k r hr => by rw [World.cell?_setCell_other _ _ _ _ (ne _), World.cell?_setCell_other _ _ _ _ (ne _), World.cell?_setCell_other _ _ _ _ (ne _), World.cell?_setCell_other _ _ _ _ (ne _)]; exact h.at0 k r hr, h.room.set _ _, by simpa using h.lt⟩
set_option maxHeartbeats 8000000 in
theorem toFlight_any (w : World) (id : Int) (key : ByteArray) (bk ot : Bool) (du : Int) (dm : Bool) (m h p : ByteArray) (ha : Option Addr) (hc : Nat) (wa : Option Addr) (wc : Nat) (hs : List Hdr) (ws : List Wr) (hhl : hs.length ≤ 1048576) (hwl : ws.length ≤ 1048576) (hH : HdsIn w ha hs) (hW2 : WrIn w wa ws) :
    Calls Tryz.prog 9 #[.agg #[.int .i64 id, .string key, .bool bk, .bool ot, .int .i64 du, .bool dm, .string m, .string h, .string p, .slice ha hs.length hc, .slice wa ws.length wc]] w fun e w' => (∃ B2, e = .returned (.agg #[.int .i64 id, .string key, .bool bk, .bool ot, .int .i64 du, .bool dm, .string m, .string h, .string p, .slice (some ⟨w.heap.size + 6, 0, none⟩) hs.length hs.length, .slice (some ⟨B2, 0, none⟩) ws.length ws.length]) ∧ QMine w' (w.heap.size + 6) hs ∧ WrMine w' B2 ws ∧ w.heap.size + 6 < B2) ∧ Below w.heap.size w w' := by
  obtain ⟨W, hW⟩ : ∃ W, W = ((w.alloc (.cells #[.int .i64 id, .string key, .bool bk, .bool ot, .int .i64 du, .bool dm, .string m, .string h, .string p, .slice ha hs.length hc, .slice wa ws.length wc] 27)).alloc (.cells #[.int .i64 0, .string ⟨#[]⟩, .bool false, .bool false, .int .i64 0, .bool false, .string ⟨#[]⟩, .string ⟨#[]⟩, .string ⟨#[]⟩, .slice none 0 0, .slice none 0 0] 36)).alloc (.cells #[.int .i64 id, .string key, .bool bk, .bool ot, .int .i64 du, .bool dm, .string ⟨#[]⟩, .string ⟨#[]⟩, .string ⟨#[]⟩, .slice none 0 0, .slice none 0 0] 36) := ⟨_, rfl⟩
  have bW : Below w.heap.size w W := by rw [hW]; exact (((Below.refl _ _).alloc (Nat.le_refl _) _).alloc (by simp) _).alloc (by simp; omega) _
  have hsz : W.heap.size = w.heap.size + 3 := by rw [hW]; simp
  have HW : Hid (W = ((w.alloc (.cells #[.int .i64 id, .string key, .bool bk, .bool ot, .int .i64 du, .bool dm, .string m, .string h, .string p, .slice ha hs.length hc, .slice wa ws.length wc] 27)).alloc (.cells #[.int .i64 0, .string ⟨#[]⟩, .bool false, .bool false, .int .i64 0, .bool false, .string ⟨#[]⟩, .string ⟨#[]⟩, .string ⟨#[]⟩, .slice none 0 0, .slice none 0 0] 36)).alloc (.cells #[.int .i64 id, .string key, .bool bk, .bool ot, .int .i64 du, .bool dm, .string ⟨#[]⟩, .string ⟨#[]⟩, .string ⟨#[]⟩, .slice none 0 0, .slice none 0 0] 36)) := hW
  have f2 : E11 W (w.heap.size + 2) (.int .i64 id) (.string key) (.bool bk) (.bool ot) (.int .i64 du) (.bool dm) (.string ⟨#[]⟩) (.string ⟨#[]⟩) (.string ⟨#[]⟩) (.slice none 0 0) (.slice none 0 0) := by
    rw [hW]
    have := E11.new ((w.alloc (.cells #[.int .i64 id, .string key, .bool bk, .bool ot, .int .i64 du, .bool dm, .string m, .string h, .string p, .slice ha hs.length hc, .slice wa ws.length wc] 27)).alloc (.cells #[.int .i64 0, .string ⟨#[]⟩, .bool false, .bool false, .int .i64 0, .bool false, .string ⟨#[]⟩, .string ⟨#[]⟩, .string ⟨#[]⟩, .slice none 0 0, .slice none 0 0] 36)) (.int .i64 id) (.string key) (.bool bk) (.bool ot) (.int .i64 du) (.bool dm) (.string ⟨#[]⟩) (.string ⟨#[]⟩) (.string ⟨#[]⟩) (.slice none 0 0) (.slice none 0 0) 36
    simpa using this
  have f1 : E11 W (w.heap.size + 1) (.int .i64 0) (.string ⟨#[]⟩) (.bool false) (.bool false) (.int .i64 0) (.bool false) (.string ⟨#[]⟩) (.string ⟨#[]⟩) (.string ⟨#[]⟩) (.slice none 0 0) (.slice none 0 0) := by
    rw [hW]
    have := (E11.new (w.alloc (.cells #[.int .i64 id, .string key, .bool bk, .bool ot, .int .i64 du, .bool dm, .string m, .string h, .string p, .slice ha hs.length hc, .slice wa ws.length wc] 27)) (.int .i64 0) (.string ⟨#[]⟩) (.bool false) (.bool false) (.int .i64 0) (.bool false) (.string ⟨#[]⟩) (.string ⟨#[]⟩) (.string ⟨#[]⟩) (.slice none 0 0) (.slice none 0 0) 36).keep ((Below.refl _ _).alloc (Nat.le_refl _) (.cells #[.int .i64 id, .string key, .bool bk, .bool ot, .int .i64 du, .bool dm, .string ⟨#[]⟩, .string ⟨#[]⟩, .string ⟨#[]⟩, .slice none 0 0, .slice none 0 0] 36))
    simpa using this
  have f0 : E11 W (w.heap.size) (.int .i64 id) (.string key) (.bool bk) (.bool ot) (.int .i64 du) (.bool dm) (.string m) (.string h) (.string p) (.slice ha hs.length hc) (.slice wa ws.length wc) := by
    rw [hW]
    exact ((E11.new w (.int .i64 id) (.string key) (.bool bk) (.bool ot) (.int .i64 du) (.bool dm) (.string m) (.string h) (.string p) (.slice ha hs.length hc) (.slice wa ws.length wc) 27).keep ((Below.refl _ _).alloc (Nat.le_refl _) _)).keep ((Below.refl _ _).alloc (Nat.le_refl _) _)
  have K0 : Hid (Below w.heap.size w W ∧ E11 W (w.heap.size) (.int .i64 id) (.string key) (.bool bk) (.bool ot) (.int .i64 du) (.bool dm) (.string m) (.string h) (.string p) (.slice ha hs.length hc) (.slice wa ws.length wc) ∧ E11 W (w.heap.size + 1) (.int .i64 0) (.string ⟨#[]⟩) (.bool false) (.bool false) (.int .i64 0) (.bool false) (.string ⟨#[]⟩) (.string ⟨#[]⟩) (.string ⟨#[]⟩) (.slice none 0 0) (.slice none 0 0) ∧ E11 W (w.heap.size + 2) (.int .i64 id) (.string key) (.bool bk) (.bool ot) (.int .i64 du) (.bool dm) (.string ⟨#[]⟩) (.string ⟨#[]⟩) (.string ⟨#[]⟩) (.slice none 0 0) (.slice none 0 0) ∧ W.heap.size = w.heap.size + 3) := ⟨bW, f0, f1, f2, hsz⟩
  have C := toRequest_any W m h p ha hc hs hhl (hH.keep bW)
  rw [hsz] at C
  have HCW : Hid (∀ X, Below w.heap.size w X → Calls Tryz.prog 43 #[.slice wa ws.length wc] X fun e w' => e = .returned (.slice (some ⟨X.heap.size, 0, none⟩) ws.length ws.length) ∧ WrMine w' X.heap.size ws ∧ Below X.heap.size X w') := fun X hX => (toWrS_any X wa wc ws hwl (hW2.keep hX)).mono fun e w' ⟨a, b, c, d, e⟩ => ⟨a, ⟨b, c, d⟩, e⟩
  clear hW bW hsz f0 f1 f2 hH hW2 hhl hwl
  generalize hn1 : hs.length = hl at *
  generalize hn2 : ws.length = wn at *
  clear hn1 hn2
  go_enter Tryz.func9, Tryz.ntmps9
  go_wp2_with fail
  rw [← HW.out]
  refine C.mono ?_
  rintro e0 w1 ⟨rfl, hq, hb1⟩
  have hb1' : Below W.heap.size W w1 := by rw [K0.out.2.2.2.2]; exact hb1
  have K1 : Hid (Below w.heap.size w w1 ∧ E11 w1 (w.heap.size) (.int .i64 id) (.string key) (.bool bk) (.bool ot) (.int .i64 du) (.bool dm) (.string m) (.string h) (.string p) (.slice ha hl hc) (.slice wa wn wc) ∧ E11 w1 (w.heap.size + 1) (.int .i64 0) (.string ⟨#[]⟩) (.bool false) (.bool false) (.int .i64 0) (.bool false) (.string ⟨#[]⟩) (.string ⟨#[]⟩) (.string ⟨#[]⟩) (.slice none 0 0) (.slice none 0 0) ∧ E11 w1 (w.heap.size + 2) (.int .i64 id) (.string key) (.bool bk) (.bool ot) (.int .i64 du) (.bool dm) (.string ⟨#[]⟩) (.string ⟨#[]⟩) (.string ⟨#[]⟩) (.slice none 0 0) (.slice none 0 0) ∧ QMine w1 (w.heap.size + 6) hs) := ⟨K0.out.1.trans (hb1'.mono K0.out.1.size), K0.out.2.1.keep hb1', K0.out.2.2.1.keep hb1', K0.out.2.2.2.1.keep hb1', hq⟩
  clear C hq hb1 hb1' K0 HW
  obtain ⟨V1, hV1⟩ : ∃ V, V = ((((w1.setCell ⟨w.heap.size + 2, 6, none⟩ (.string m)).setCell ⟨w.heap.size + 2, 7, none⟩ (.string h)).setCell ⟨w.heap.size + 2, 8, none⟩ (.string p)).setCell ⟨w.heap.size + 2, 9, none⟩ (.slice (some ⟨w.heap.size + 6, 0, none⟩) hl hl)) := ⟨_, rfl⟩
  have HV1 : Hid (V1 = ((((w1.setCell ⟨w.heap.size + 2, 6, none⟩ (.string m)).setCell ⟨w.heap.size + 2, 7, none⟩ (.string h)).setCell ⟨w.heap.size + 2, 8, none⟩ (.string p)).setCell ⟨w.heap.size + 2, 9, none⟩ (.slice (some ⟨w.heap.size + 6, 0, none⟩) hl hl))) := hV1
  clear hV1
  have K1b : Hid (Below w.heap.size w V1 ∧ E11 V1 (w.heap.size) (.int .i64 id) (.string key) (.bool bk) (.bool ot) (.int .i64 du) (.bool dm) (.string m) (.string h) (.string p) (.slice ha hl hc) (.slice wa wn wc) ∧ E11 V1 (w.heap.size + 1) (.int .i64 0) (.string ⟨#[]⟩) (.bool false) (.bool false) (.int .i64 0) (.bool false) (.string ⟨#[]⟩) (.string ⟨#[]⟩) (.string ⟨#[]⟩) (.slice none 0 0) (.slice none 0 0) ∧ E11 V1 (w.heap.size + 2) (.int .i64 id) (.string key) (.bool bk) (.bool ot) (.int .i64 du) (.bool dm) (.string m) (.string h) (.string p) (.slice (some ⟨w.heap.size + 6, 0, none⟩) hl hl) (.slice none 0 0) ∧ QMine V1 (w.heap.size + 6) hs) := by
    rw [HV1.out]
    obtain ⟨p1, p2, p3, p4, p5⟩ := K1.out
    exact ⟨(((p1.setCell (by simp) _).setCell (by simp) _).setCell (by simp) _).setCell (by simp) _, (((p2.off (by omega)).off (by omega)).off (by omega)).off (by omega), (((p3.off (by omega)).off (by omega)).off (by omega)).off (by omega), (((p4.set6 _).set7 _).set8 _).set9 _, (((p5.off1 _ (by omega)).off1 _ (by omega)).off1 _ (by omega)).off1 _ (by omega)⟩
  have a6 := K1.out.2.2.2.1.c6
  have af6 := K1.out.2.2.2.1.fr 6
  have a7 := K1.out.2.2.2.1.c7
  have af7 := K1.out.2.2.2.1.fr 7
  have a8 := K1.out.2.2.2.1.c8
  have af8 := K1.out.2.2.2.1.fr 8
  have a9 := K1.out.2.2.2.1.c9
  have af9 := K1.out.2.2.2.1.fr 9
  have g10 := K1.out.2.1.c10
  clear K1
  go_wp2_with fail
  rw [← HV1.out]
  clear a6 af6 a7 af7 a8 af8 a9 af9 g10 HV1
  refine (HCW.out V1 K1b.out.1).mono ?_
  rintro e0 w2 ⟨rfl, hbm, hb2⟩
  obtain ⟨B2, hB2⟩ : ∃ B, V1.heap.size = B := ⟨_, rfl⟩
  have K2 : Hid (Below w.heap.size w w2 ∧ E11 w2 (w.heap.size + 1) (.int .i64 0) (.string ⟨#[]⟩) (.bool false) (.bool false) (.int .i64 0) (.bool false) (.string ⟨#[]⟩) (.string ⟨#[]⟩) (.string ⟨#[]⟩) (.slice none 0 0) (.slice none 0 0) ∧ E11 w2 (w.heap.size + 2) (.int .i64 id) (.string key) (.bool bk) (.bool ot) (.int .i64 du) (.bool dm) (.string m) (.string h) (.string p) (.slice (some ⟨w.heap.size + 6, 0, none⟩) hl hl) (.slice none 0 0) ∧ QMine w2 (w.heap.size + 6) hs ∧ WrMine w2 B2 ws ∧ w.heap.size + 6 < B2) := by
    obtain ⟨p1, p2, p3, p4, p5⟩ := K1b.out
    exact ⟨p1.trans (hb2.mono p1.size), p3.keep hb2, p4.keep hb2, p5.keep hb2, hB2 ▸ hbm, hB2 ▸ p5.lt⟩
  rw [hB2]
  clear K1b hbm hb2 hB2 HCW
  have a0 := K2.out.2.2.1.c0
  have z0 := K2.out.2.1.c0
  have zf0 := K2.out.2.1.fr 0
  have a1 := K2.out.2.2.1.c1
  have z1 := K2.out.2.1.c1
  have zf1 := K2.out.2.1.fr 1
  have a2 := K2.out.2.2.1.c2
  have z2 := K2.out.2.1.c2
  have zf2 := K2.out.2.1.fr 2
  have a3 := K2.out.2.2.1.c3
  have z3 := K2.out.2.1.c3
  have zf3 := K2.out.2.1.fr 3
  have a4 := K2.out.2.2.1.c4
  have z4 := K2.out.2.1.c4
  have zf4 := K2.out.2.1.fr 4
  have a5 := K2.out.2.2.1.c5
  have z5 := K2.out.2.1.c5
  have zf5 := K2.out.2.1.fr 5
  have a6 := K2.out.2.2.1.c6
  have z6 := K2.out.2.1.c6
  have zf6 := K2.out.2.1.fr 6
  have a7 := K2.out.2.2.1.c7
  have z7 := K2.out.2.1.c7
  have zf7 := K2.out.2.1.fr 7
  have a8 := K2.out.2.2.1.c8
  have z8 := K2.out.2.1.c8
  have zf8 := K2.out.2.1.fr 8
  have a9 := K2.out.2.2.1.c9
  have z9 := K2.out.2.1.c9
  have zf9 := K2.out.2.1.fr 9
  have a10 := K2.out.2.2.1.c10
  have z10 := K2.out.2.1.c10
  have zf10 := K2.out.2.1.fr 10
  have af10 := K2.out.2.2.1.fr 10
  go_wp2_with fail
  obtain ⟨p1, p2, p3, p4, p5, p6⟩ := K2.out
  refine bodyPost_ret (v := .agg #[.int .i64 id, .string key, .bool bk, .bool ot, .int .i64 du, .bool dm, .string m, .string h, .string p, .slice (some ⟨w.heap.size + 6, 0, none⟩) hl hl, .slice (some ⟨B2, 0, none⟩) wn wn]) ?_ rfl ⟨⟨B2, rfl, (((((((((((p4.off1 _ (by omega)).off1 _ (by omega)).off1 _ (by omega)).off1 _ (by omega)).off1 _ (by omega)).off1 _ (by omega)).off1 _ (by omega)).off1 _ (by omega)).off1 _ (by omega)).off1 _ (by omega)).off1 _ (by omega)).off1 _ (by omega), (((((((((((p5.off1 _ (by omega)).off1 _ (by omega)).off1 _ (by omega)).off1 _ (by omega)).off1 _ (by omega)).off1 _ (by omega)).off1 _ (by omega)).off1 _ (by omega)).off1 _ (by omega)).off1 _ (by omega)).off1 _ (by omega)).off1 _ (by omega), p6⟩, (((((((((((p1.setCell (by simp only; omega) _).setCell (by simp only; omega) _).setCell (by simp only; omega) _).setCell (by simp only; omega) _).setCell (by simp only; omega) _).setCell (by simp only; omega) _).setCell (by simp only; omega) _).setCell (by simp only; omega) _).setCell (by simp only; omega) _).setCell (by simp only; omega) _).setCell (by simp only; omega) _).setCell (by simp only; omega) _⟩
  simp [results, Tryz.results9, go_sem, z0, z1, z2, z3, z4, z5, z6, z7, z8, z9, z10]
end Go.Proofs.YtkchefbhpbpanaaGreatDoor
/-
  Head lines, held against each other by the laws, wherever they lie.
-/
namespace Go.Proofs.YtkchefbhpbpanaaGreatDoor
open Go.ChangeShapes Go.WideShapes Go.ChangeAt Go.RowKit Go.Sort
set_option maxHeartbeats 1000000 in
theorem eqHeaderS_nn (w : World) (a b : Option Addr) (c d : Nat) :
    Calls Tryz.prog 89 #[.slice a 0 c, .slice b 0 d] w fun e w' => e = .returned (.bool true) ∧ Below w.heap.size w w' := by
  go_enter Tryz.func89, Tryz.ntmps89
  go_wp2_with fail
  go_loop [5] (fun i => i = .int .i64 0) (fun _ => 0)
  case atStart => exact rfl
  case round =>
    cases hrel
    go_wp2_with fail
    go_ret
    exact ⟨rfl, Below.refl _ _⟩
theorem eqHeaderS_at (w : World) (a1 a2 : Option Addr) (c1 c2 : Nat) (l : List Hdr) (hl : l.length ≤ 1048576) (h1 : HdsIn w a1 l) (h2 : HdsIn w a2 l) :
    Calls Tryz.prog 89 #[.slice a1 l.length c1, .slice a2 l.length c2] w fun e w' => e = .returned (.bool true) ∧ Below w.heap.size w w' := by
  rcases h1 with rfl | ⟨b, o, rfl, h1⟩
  · exact eqHeaderS_nn w _ _ _ _
  · rcases h2 with rfl | ⟨b2, o2, rfl, h2⟩
    · exact eqHeaderS_nn w _ _ _ _
    · exact eqHeaderS_same w b o b2 o2 c1 c2 l hl h1 h2
end Go.Proofs.YtkchefbhpbpanaaGreatDoor
/-
  Flights, held against each other by the laws.
-/
namespace Go.Proofs.YtkchefbhpbpanaaGreatDoor
open Go.ChangeShapes Go.WideShapes Go.ChangeAt Go.RowKit Go.Sort
set_option maxHeartbeats 4000000 in
theorem eqRequest_in (W : World) (m h p : ByteArray) (h1 h2 : Option Addr) (k1 k2 : Nat) (hs : List Hdr) (hl : hs.length ≤ 1048576) (i1 : HdsIn W h1 hs) (i2 : HdsIn W h2 hs) :
    Calls Tryz.prog 50 #[.agg #[.string m, .string h, .string p, .slice h1 hs.length k1], .agg #[.string m, .string h, .string p, .slice h2 hs.length k2]] W fun e w' => e = .returned (.bool true) ∧ Below W.heap.size W w' := by
  have bW : Below W.heap.size W ((W.alloc (.cells #[.string m, .string h, .string p, .slice h1 hs.length k1] 33)).alloc (.cells #[.string m, .string h, .string p, .slice h2 hs.length k2] 33)) := ((Below.refl _ _).alloc (Nat.le_refl _) _).alloc (by simp) _
  have C := eqHeaderS_at _ h1 h2 k1 k2 hs hl (i1.keep bW) (i2.keep bW)
  have HB : Hid (Below W.heap.size W ((W.alloc (.cells #[.string m, .string h, .string p, .slice h1 hs.length k1] 33)).alloc (.cells #[.string m, .string h, .string p, .slice h2 hs.length k2] 33))) := bW
  clear bW i1 i2 hl
  generalize hs.length = n at *
  go_enter Tryz.func50, Tryz.ntmps50
  go_wp2_with fail
  refine C.mono ?_
  rintro r w1 ⟨rfl, hb1⟩
  have HB1 : Hid (Below W.heap.size W w1) := HB.out.trans (hb1.mono HB.out.size)
  clear hb1 C HB
  go_wp2_with fail
  go_ret
  exact ⟨rfl, HB1.out⟩
set_option maxHeartbeats 8000000 in
theorem eqFlight_same (w : World) (id : Int) (key : ByteArray) (bk ot : Bool) (du : Int) (dm : Bool) (m h p : ByteArray) (h1 h2 : Option Addr) (k1 k2 : Nat) (w1 w2 : Option Addr) (c1 c2 : Nat) (hs : List Hdr) (ws : List Wr) (hhl : hs.length ≤ 1048576) (hwl : ws.length ≤ 1048576) (i1 : HdsIn w h1 hs) (i2 : HdsIn w h2 hs) (j1 : WrIn w w1 ws) (j2 : WrIn w w2 ws) :
    Calls Tryz.prog 13 #[.agg #[.int .i64 id, .string key, .bool bk, .bool ot, .int .i64 du, .bool dm, .string m, .string h, .string p, .slice h1 hs.length k1, .slice w1 ws.length c1], .agg #[.int .i64 id, .string key, .bool bk, .bool ot, .int .i64 du, .bool dm, .string m, .string h, .string p, .slice h2 hs.length k2, .slice w2 ws.length c2]] w fun e w' => e = .returned (.bool true) ∧ Below w.heap.size w w' := by
  have HB : Hid (Below w.heap.size w ((w.alloc (.cells #[.int .i64 id, .string key, .bool bk, .bool ot, .int .i64 du, .bool dm, .string m, .string h, .string p, .slice h1 hs.length k1, .slice w1 ws.length c1] 36)).alloc (.cells #[.int .i64 id, .string key, .bool bk, .bool ot, .int .i64 du, .bool dm, .string m, .string h, .string p, .slice h2 hs.length k2, .slice w2 ws.length c2] 36))) := ((Below.refl _ _).alloc (Nat.le_refl _) _).alloc (by simp) _
  have HC1 : Hid (E11 ((w.alloc (.cells #[.int .i64 id, .string key, .bool bk, .bool ot, .int .i64 du, .bool dm, .string m, .string h, .string p, .slice h1 hs.length k1, .slice w1 ws.length c1] 36)).alloc (.cells #[.int .i64 id, .string key, .bool bk, .bool ot, .int .i64 du, .bool dm, .string m, .string h, .string p, .slice h2 hs.length k2, .slice w2 ws.length c2] 36)) w.heap.size (.int .i64 id) (.string key) (.bool bk) (.bool ot) (.int .i64 du) (.bool dm) (.string m) (.string h) (.string p) (.slice h1 hs.length k1) (.slice w1 ws.length c1)) := (E11.new w _ _ _ _ _ _ _ _ _ _ _ _).keep ((Below.refl _ _).alloc (Nat.le_refl _) _)
  have HC2 : Hid (E11 ((w.alloc (.cells #[.int .i64 id, .string key, .bool bk, .bool ot, .int .i64 du, .bool dm, .string m, .string h, .string p, .slice h1 hs.length k1, .slice w1 ws.length c1] 36)).alloc (.cells #[.int .i64 id, .string key, .bool bk, .bool ot, .int .i64 du, .bool dm, .string m, .string h, .string p, .slice h2 hs.length k2, .slice w2 ws.length c2] 36)) (w.heap.size + 1) (.int .i64 id) (.string key) (.bool bk) (.bool ot) (.int .i64 du) (.bool dm) (.string m) (.string h) (.string p) (.slice h2 hs.length k2) (.slice w2 ws.length c2)) := by
    have := E11.new (w.alloc (.cells #[.int .i64 id, .string key, .bool bk, .bool ot, .int .i64 du, .bool dm, .string m, .string h, .string p, .slice h1 hs.length k1, .slice w1 ws.length c1] 36)) (.int .i64 id) (.string key) (.bool bk) (.bool ot) (.int .i64 du) (.bool dm) (.string m) (.string h) (.string p) (.slice h2 hs.length k2) (.slice w2 ws.length c2) 36
    show E11 ((w.alloc (.cells #[.int .i64 id, .string key, .bool bk, .bool ot, .int .i64 du, .bool dm, .string m, .string h, .string p, .slice h1 hs.length k1, .slice w1 ws.length c1] 36)).alloc (.cells #[.int .i64 id, .string key, .bool bk, .bool ot, .int .i64 du, .bool dm, .string m, .string h, .string p, .slice h2 hs.length k2, .slice w2 ws.length c2] 36)) (w.heap.size + 1) (.int .i64 id) (.string key) (.bool bk) (.bool ot) (.int .i64 du) (.bool dm) (.string m) (.string h) (.string p) (.slice h2 hs.length k2) (.slice w2 ws.length c2)
    simpa using this
  have HQ : Hid (∀ X, Below w.heap.size w X → Calls Tryz.prog 50 #[.agg #[.string m, .string h, .string p, .slice h1 hs.length k1], .agg #[.string m, .string h, .string p, .slice h2 hs.length k2]] X fun e w' => e = .returned (.bool true) ∧ Below X.heap.size X w') := fun X hb => eqRequest_in X m h p h1 h2 k1 k2 hs hhl (i1.keep hb) (i2.keep hb)
  have HWS : Hid (∀ X, Below w.heap.size w X → Calls Tryz.prog 51 #[.slice w1 ws.length c1, .slice w2 ws.length c2] X fun e w' => e = .returned (.bool true) ∧ Below X.heap.size X w') := fun X hb => eqWrS_same X w1 w2 c1 c2 ws hwl (j1.keep hb) (j2.keep hb)
  obtain ⟨V, hV⟩ : ∃ V, V = ((w.alloc (.cells #[.int .i64 id, .string key, .bool bk, .bool ot, .int .i64 du, .bool dm, .string m, .string h, .string p, .slice h1 hs.length k1, .slice w1 ws.length c1] 36)).alloc (.cells #[.int .i64 id, .string key, .bool bk, .bool ot, .int .i64 du, .bool dm, .string m, .string h, .string p, .slice h2 hs.length k2, .slice w2 ws.length c2] 36)) := ⟨_, rfl⟩
  have HV : Hid (V = ((w.alloc (.cells #[.int .i64 id, .string key, .bool bk, .bool ot, .int .i64 du, .bool dm, .string m, .string h, .string p, .slice h1 hs.length k1, .slice w1 ws.length c1] 36)).alloc (.cells #[.int .i64 id, .string key, .bool bk, .bool ot, .int .i64 du, .bool dm, .string m, .string h, .string p, .slice h2 hs.length k2, .slice w2 ws.length c2] 36))) := hV
  rw [← hV] at HB HC1 HC2
  clear hV i1 i2 j1 j2 hhl hwl
  generalize hs.length = hl at *
  generalize ws.length = wn at *
  go_enter Tryz.func13, Tryz.ntmps13
  go_wp2_with fail
  rw [← HV.out]
  refine (HQ.out _ HB.out).mono ?_
  rintro r v1 ⟨rfl, hb1⟩
  have HB1 : Hid (Below w.heap.size w v1) := HB.out.trans (hb1.mono HB.out.size)
  have q1 := (HC1.out.keep hb1).c10
  have q2 := (HC2.out.keep hb1).c10
  clear hb1 HB HC1 HC2 HV HQ
  go_wp2_with fail
  refine (HWS.out _ HB1.out).mono ?_
  rintro r v2 ⟨rfl, hb2⟩
  have HB2 : Hid (Below w.heap.size w v2) := HB1.out.trans (hb2.mono HB1.out.size)
  clear hb2 HB1 HWS q1 q2
  go_wp2_with fail
  go_ret
  exact ⟨rfl, HB2.out⟩
end Go.Proofs.YtkchefbhpbpanaaGreatDoor
/-
  Rows of head lines and of waiters as facts that hang on stretches of blocks; flights marked and held.
-/
namespace Go.Proofs.YtkchefbhpbpanaaGreatDoor
open Go.ChangeShapes Go.WideShapes Go.ChangeAt Go.RowKit Go.Sort
/-- Waiters that lie in a block of their own. -/
def WL (v : Value) (l : List Wr) (lo hi : Nat) (X : World) : Prop := (l = [] ∧ ∃ a c, v = .slice a 0 c) ∨ ∃ g off c, v = .slice (some ⟨g, off, none⟩) l.length c ∧ lo ≤ g ∧ g < hi ∧ WrAt X g off l ∧ ∀ o, o < off + l.length * 4 → X.frozen? ⟨g, o, none⟩ = false
/-- The same, marked. -/
def WLm (v : Value) (l : List Wr) (lo hi : Nat) (X : World) : Prop := (l = [] ∧ ∃ a c, v = .slice a 0 c) ∨ ∃ g off c, v = .slice (some ⟨g, off, none⟩) l.length c ∧ lo ≤ g ∧ g < hi ∧ WrAt X g off l
theorem WL.dep (v : Value) (l : List Wr) (lo hi : Nat) : Dep lo hi (WL v l lo hi) := fun X X' _ _ hc k => by
  rcases k with e | ⟨g, off, c, e, h1, h2, hat, hf⟩
  · exact .inl e
  · exact .inr ⟨g, off, c, e, h1, h2, fun i r hr => by rw [(hc g _ h1 h2).1, (hc g _ h1 h2).1, (hc g _ h1 h2).1, (hc g _ h1 h2).1]; exact hat i r hr, fun o ho => by rw [(hc g o h1 h2).2]; exact hf o ho⟩
theorem WLm.dep (v : Value) (l : List Wr) (lo hi : Nat) : Dep lo hi (WLm v l lo hi) := fun X X' _ _ hc k => by
  rcases k with e | ⟨g, off, c, e, h1, h2, hat⟩
  · exact .inl e
  · exact .inr ⟨g, off, c, e, h1, h2, fun i r hr => by rw [(hc g _ h1 h2).1, (hc g _ h1 h2).1, (hc g _ h1 h2).1, (hc g _ h1 h2).1]; exact hat i r hr⟩
theorem WL.in {a : Option Addr} {n c : Nat} {l : List Wr} {lo hi : Nat} {X : World} (k : WL (.slice a n c) l lo hi X) : n = l.length ∧ WrIn X a l := by
  rcases k with ⟨rfl, a', c', e⟩ | ⟨g, off, c', e, _, _, hat, _⟩
  · simp only [Value.slice.injEq] at e
    exact ⟨e.2.1, .inl rfl⟩
  · simp only [Value.slice.injEq] at e
    obtain ⟨rfl, rfl, rfl⟩ := e
    exact ⟨rfl, .inr ⟨g, off, rfl, hat⟩⟩
theorem WLm.in {a : Option Addr} {n c : Nat} {l : List Wr} {lo hi : Nat} {X : World} (k : WLm (.slice a n c) l lo hi X) : n = l.length ∧ WrIn X a l := by
  rcases k with ⟨rfl, a', c', e⟩ | ⟨g, off, c', e, _, _, hat⟩
  · simp only [Value.slice.injEq] at e
    exact ⟨e.2.1, .inl rfl⟩
  · simp only [Value.slice.injEq] at e
    obtain ⟨rfl, rfl, rfl⟩ := e
    exact ⟨rfl, .inr ⟨g, off, rfl, hat⟩⟩
/-- The stretch of a row: its own block, or none from base on. -/
def sLo (v : Value) (b : Nat) : Nat := match v.ownBlock with | some g => g | none => b
def sHi (v : Value) (b : Nat) : Nat := match v.ownBlock with | some g => g + 1 | none => b
theorem s_le (v : Value) (b : Nat) : sLo v b ≤ sHi v b := by unfold sLo sHi; split <;> omega
theorem s_apart {v u : Value} {b : Nat} (ap : ∀ q, v.ownBlock = some q → u.ownBlock ≠ some q) (hv : ∀ q, v.ownBlock = some q → b ≤ q) (hu : ∀ q, u.ownBlock = some q → b ≤ q) : sHi v b ≤ sLo u b ∨ sHi u b ≤ sLo v b := by
  unfold sHi sLo
  cases e1 : v.ownBlock with
  | none =>
    cases e2 : u.ownBlock with
    | none => exact .inl (Nat.le_refl _)
    | some q => exact .inl (hu q e2)
  | some p =>
    cases e2 : u.ownBlock with
    | none => exact .inr (hv p e1)
    | some q =>
      have : p ≠ q := fun e => ap p e1 (by rw [e2, e])
      simp only
      omega
theorem row_stretch {w : World} {base : Nat} {e : TypeId} {size : Nat} {v : Value} {n : Nat} {xs : List Value} (h : w.ownsRow base e size v n xs) {b : Nat} (hb : b ≤ base) (hs : b ≤ w.heap.size) : b ≤ sLo v b ∧ sHi v b ≤ w.heap.size := by
  unfold sLo sHi
  cases e1 : v.ownBlock with
  | none => exact ⟨Nat.le_refl _, hs⟩
  | some q => have := World.ownsRow.lt h q e1; simp only; omega
theorem OwnWr.wl {w : World} {base : Nat} {v : Value} {l : List Wr} (h : OwnWr w base v l) {b : Nat} (hb : b ≤ base) (hs : b ≤ w.heap.size) : At (sLo v b) (sHi v b) (WL v l) w := by
  refine ⟨(row_stretch h hb hs).2, WL.dep _ _ _ _, ?_⟩
  have h2 := h.new
  rcases h2 with ⟨e, a, c, e2⟩ | ⟨g, off, c, e, h1, h3, hat, hf⟩
  · exact .inl ⟨e, a, c, e2⟩
  · refine .inr ⟨g, off, c, e, ?_, ?_, hat, fun o _ => hf o⟩
    · subst e; exact Nat.le_refl _
    · subst e; exact Nat.lt_succ_self _
theorem RowH.hl {w : World} {base : Nat} {v : Value} {l : List Hdr} (h : RowH w base v l) {b : Nat} (hb : b ≤ base) (hs : b ≤ w.heap.size) : At (sLo v b) (sHi v b) (HL v l) w := by
  refine ⟨(row_stretch h hb hs).2, HL.dep _ _ _ _, (OwnH.lv h).1, fun q hq => ?_⟩
  unfold sLo sHi
  rw [hq]
  exact ⟨Nat.le_refl _, Nat.lt_succ_self _⟩
theorem At.gb {l h g : Nat} {C : Nat → Nat → World → Prop} {X X' : World} (k : At l h C X) (q : X.grownBy X' (some g)) (hd : h ≤ g ∨ g < l) : At l h C X' :=
  k.wi (lo := g) (hi := g + 1) ⟨q.size, fun b o hb hn => gbCell q o hb (by omega), fun b o hb hn => gbFrozen q o hb (by omega)⟩ (by omega)
/-- Nothing is written but in blocks of which P says so, and in new ones. -/
structure Wp (P : Nat → Prop) (X X' : World) : Prop where
  size : X.heap.size ≤ X'.heap.size
  cell : ∀ b o, b < X.heap.size → ¬ P b → X'.cell? ⟨b, o, none⟩ = X.cell? ⟨b, o, none⟩
  frozen : ∀ b o, b < X.heap.size → ¬ P b → X'.frozen? ⟨b, o, none⟩ = X.frozen? ⟨b, o, none⟩
theorem Wp.trans {P : Nat → Prop} {X Y Z : World} (g : Wp P X Y) (k : Wp P Y Z) : Wp P X Z :=
  ⟨Nat.le_trans g.size k.size, fun b o h1 h2 => (k.cell b o (Nat.lt_of_lt_of_le h1 g.size) h2).trans (g.cell b o h1 h2), fun b o h1 h2 => (k.frozen b o (Nat.lt_of_lt_of_le h1 g.size) h2).trans (g.frozen b o h1 h2)⟩
theorem Wi.wp {lo hi : Nat} {X X' : World} {P : Nat → Prop} (g : Wi lo hi X X') (h : ∀ b, lo ≤ b → b < hi → P b) : Wp P X X' :=
  ⟨g.size, fun b o hb hn => g.cell b o hb (by by_cases c : b < lo; exact .inl c; exact .inr (by by_cases d : b < hi; exact absurd (h b (by omega) d) hn; omega)), fun b o hb hn => g.frozen b o hb (by by_cases c : b < lo; exact .inl c; exact .inr (by by_cases d : b < hi; exact absurd (h b (by omega) d) hn; omega))⟩
theorem Wp.wi {lo hi : Nat} {X X' : World} {P : Nat → Prop} (g : Wp P X X') (h : ∀ b, P b → lo ≤ b ∧ b < hi) : Wi lo hi X X' :=
  ⟨g.size, fun b o hb hn => g.cell b o hb (fun p => by have := h b p; omega), fun b o hb hn => g.frozen b o hb (fun p => by have := h b p; omega)⟩
theorem Wp.mono {X X' : World} {P Q : Nat → Prop} (g : Wp P X X') (h : ∀ b, P b → Q b) : Wp Q X X' := ⟨g.size, fun b o hb hn => g.cell b o hb (fun p => hn (h b p)), fun b o hb hn => g.frozen b o hb (fun p => hn (h b p))⟩
theorem At.wp {l h : Nat} {C : Nat → Nat → World → Prop} {X X' : World} {P : Nat → Prop} (k : At l h C X) (g : Wp P X X') (hd : ∀ b, l ≤ b → b < h → ¬ P b) : At l h C X' :=
  ⟨Nat.le_trans k.le g.size, k.dep, k.dep X X' k.le g.size (fun b o h1 h2 => ⟨g.cell b o (Nat.lt_of_lt_of_le h2 k.le) (hd b h1 h2), g.frozen b o (Nat.lt_of_lt_of_le h2 k.le) (hd b h1 h2)⟩) k.val⟩
theorem At.lowB {l h base : Nat} {C : Nat → Nat → World → Prop} {X X' : World} (k : At l h C X) (hb : Below base X X') (hh : h ≤ base) : At l h C X' :=
  ⟨Nat.le_trans k.le hb.size, k.dep, k.dep X X' k.le hb.size (fun b o _ h2 => ⟨hb.cell (p := ⟨b, o, none⟩) (Nat.lt_of_lt_of_le h2 hh), hb.frozen (p := ⟨b, o, none⟩) (Nat.lt_of_lt_of_le h2 hh)⟩) k.val⟩
theorem s_off {v : Value} {b c : Nat} (hv : ∀ q, v.ownBlock = some q → c ≤ q) : c ≤ sLo v b ∨ sHi v b = b := by
  unfold sLo sHi
  cases e : v.ownBlock with
  | none => exact .inr rfl
  | some q => exact .inl (hv q e)
/-- The rows of a flight. -/
def FR (L : List Hdr) (W : List Wr) (ra : Option Addr) (rn rk : Nat) (wa : Option Addr) (wn wk : Nat) (lo hi : Nat) (X : World) : Prop := (rn = L.length ∧ wn = W.length) ∧ ∃ l1 h1 l2 h2, (lo ≤ l1 ∧ l1 ≤ h1 ∧ h1 ≤ hi) ∧ (lo ≤ l2 ∧ l2 ≤ h2 ∧ h2 ≤ hi) ∧ (h1 ≤ l2 ∨ h2 ≤ l1) ∧ At l1 h1 (HL (.slice ra rn rk) L) X ∧ At l2 h2 (WL (.slice wa wn wk) W) X
theorem FR.dep (L : List Hdr) (W : List Wr) (ra : Option Addr) (rn rk : Nat) (wa : Option Addr) (wn wk : Nat) (lo hi : Nat) : Dep lo hi (FR L W ra rn rk wa wn wk lo hi) := fun X X' _ h2 hc k => by
  obtain ⟨e, l1, h1, l2, h2', a, b, c, d1, d2⟩ := k
  exact ⟨e, l1, h1, l2, h2', a, b, c, d1.mv a.1 a.2.2 h2 hc, d2.mv b.1 b.2.2 h2 hc⟩
/-- The rows of a flight, and those who wait no more. -/
def RW (L : List Hdr) (W G : List Wr) (ra : Option Addr) (rn rk : Nat) (wa : Option Addr) (wn wk : Nat) (ga : Option Addr) (gn gk : Nat) (lo hi : Nat) (X : World) : Prop := (rn = L.length ∧ wn = W.length ∧ gn = G.length) ∧ ∃ l1 h1 l2 h2 l3 h3, (lo ≤ l1 ∧ l1 ≤ h1 ∧ h1 ≤ hi) ∧ (lo ≤ l2 ∧ l2 ≤ h2 ∧ h2 ≤ hi) ∧ (lo ≤ l3 ∧ l3 ≤ h3 ∧ h3 ≤ hi) ∧ ((h1 ≤ l2 ∨ h2 ≤ l1) ∧ (h1 ≤ l3 ∨ h3 ≤ l1) ∧ (h2 ≤ l3 ∨ h3 ≤ l2)) ∧ At l1 h1 (HL (.slice ra rn rk) L) X ∧ At l2 h2 (WL (.slice wa wn wk) W) X ∧ At l3 h3 (WL (.slice ga gn gk) G) X
theorem RW.dep (L : List Hdr) (W G : List Wr) (ra : Option Addr) (rn rk : Nat) (wa : Option Addr) (wn wk : Nat) (ga : Option Addr) (gn gk : Nat) (lo hi : Nat) : Dep lo hi (RW L W G ra rn rk wa wn wk ga gn gk lo hi) := fun X X' _ h2 hc k => by
  obtain ⟨e, l1, h1, l2, h2', l3, h3, a, b, c, d, d1, d2, d3⟩ := k
  exact ⟨e, l1, h1, l2, h2', l3, h3, a, b, c, d, d1.mv a.1 a.2.2 h2 hc, d2.mv b.1 b.2.2 h2 hc, d3.mv c.1 c.2.2 h2 hc⟩
/-- The same, marked. -/
def RWm (L : List Hdr) (W G : List Wr) (ra : Option Addr) (rn rk : Nat) (wa : Option Addr) (wn wk : Nat) (ga : Option Addr) (gn gk : Nat) (lo hi : Nat) (X : World) : Prop := (rn = L.length ∧ wn = W.length ∧ gn = G.length) ∧ ∃ l1 h1 l2 h2 l3 h3, (lo ≤ l1 ∧ l1 ≤ h1 ∧ h1 ≤ hi) ∧ (lo ≤ l2 ∧ l2 ≤ h2 ∧ h2 ≤ hi) ∧ (lo ≤ l3 ∧ l3 ≤ h3 ∧ h3 ≤ hi) ∧ At l1 h1 (HL (.slice ra rn rk) (mkHL 1 rn)) X ∧ At l2 h2 (WLm (.slice wa wn wk) (mkdWr (1 + 2 * rn) W)) X ∧ At l3 h3 (WLm (.slice ga gn gk) (mkdWr (1 + 2 * rn + wn * 4) G)) X
theorem RWm.dep (L : List Hdr) (W G : List Wr) (ra : Option Addr) (rn rk : Nat) (wa : Option Addr) (wn wk : Nat) (ga : Option Addr) (gn gk : Nat) (lo hi : Nat) : Dep lo hi (RWm L W G ra rn rk wa wn wk ga gn gk lo hi) := fun X X' _ h2 hc k => by
  obtain ⟨e, l1, h1, l2, h2', l3, h3, a, b, c, d1, d2, d3⟩ := k
  exact ⟨e, l1, h1, l2, h2', l3, h3, a, b, c, d1.mv a.1 a.2.2 h2 hc, d2.mv b.1 b.2.2 h2 hc, d3.mv c.1 c.2.2 h2 hc⟩
/-- The same of a flight alone. -/
def FRm (L : List Hdr) (W : List Wr) (ra : Option Addr) (rn rk : Nat) (wa : Option Addr) (wn wk : Nat) (lo hi : Nat) (X : World) : Prop := (rn = L.length ∧ wn = W.length) ∧ ∃ l1 h1 l2 h2, (lo ≤ l1 ∧ l1 ≤ h1 ∧ h1 ≤ hi) ∧ (lo ≤ l2 ∧ l2 ≤ h2 ∧ h2 ≤ hi) ∧ At l1 h1 (HL (.slice ra rn rk) (mkHL 1 rn)) X ∧ At l2 h2 (WLm (.slice wa wn wk) (mkdWr (1 + 2 * rn) W)) X
theorem FRm.dep (L : List Hdr) (W : List Wr) (ra : Option Addr) (rn rk : Nat) (wa : Option Addr) (wn wk : Nat) (lo hi : Nat) : Dep lo hi (FRm L W ra rn rk wa wn wk lo hi) := fun X X' _ h2 hc k => by
  obtain ⟨e, l1, h1, l2, h2', a, b, d1, d2⟩ := k
  exact ⟨e, l1, h1, l2, h2', a, b, d1.mv a.1 a.2.2 h2 hc, d2.mv b.1 b.2.2 h2 hc⟩
theorem exHav {v : Value} {w V w' : World} (hV : Below w.heap.size w V) (h : HAV v V w') : HAV v w w' :=
  ⟨Nat.le_trans hV.size h.size, fun b o hb hn => (h.cell b o (Nat.lt_of_lt_of_le hb hV.size) hn).trans (hV.cell (p := ⟨b, o, none⟩) hb), fun b o hb hn => (h.frozen b o (Nat.lt_of_lt_of_le hb hV.size) hn).trans (hV.frozen (p := ⟨b, o, none⟩) hb)⟩
theorem exHavWi {v : Value} {X X' : World} (h : HAV v X X') {lo hi : Nat} (hv : ∀ b, v.ownBlock = some b → lo ≤ b ∧ b < hi) : Wi lo hi X X' :=
  ⟨h.size, fun b o hb hd => h.cell b o hb (fun e => by have := hv b e; omega), fun b o hb hd => h.frozen b o hb (fun e => by have := hv b e; omega)⟩
set_option maxRecDepth 100000 in
set_option maxHeartbeats 2000000 in
theorem exMarkRq (w : World) (m h p : ByteArray) (a : Option Addr) (n ca : Nat) (l : List Hdr) (lo hi base : Nat) (hn : n = l.length) (hl : l.length ≤ 1048576) (hv : At lo hi (HL (.slice a n ca) l) w) (hb : base ≤ lo) (hbs : base ≤ w.heap.size) :
    Calls Tryz.prog 52 #[.agg #[.string m, .string h, .string p, .slice a n ca], .int .i64 1] w fun e w' => e = .returned (.int .i64 ((1 + 2 * n : Nat) : Int)) ∧ At lo hi (HL (.slice a n ca) (mkHL 1 n)) w' ∧ Wi lo hi w w' ∧ Below base w w' := by
  obtain ⟨V, hV⟩ : ∃ V, V = w.alloc (.cells #[.string m, .string h, .string p, .slice a n ca] 33) := ⟨_, rfl⟩
  have HV : Hid (V = w.alloc (.cells #[.string m, .string h, .string p, .slice a n ca] 33)) := hV
  have bV : Below w.heap.size w V := by rw [hV]; exact (Below.refl _ _).alloc (Nat.le_refl _) _
  have C : Calls Tryz.prog 91 #[.slice a n ca, .int .i64 1] V fun e w' => e = .returned (.int .i64 ((1 + 2 * n : Nat) : Int)) ∧ At lo hi (HL (.slice a n ca) (mkHL 1 n)) w' ∧ Wi lo hi w w' ∧ Below base w w' := by
    have := markHeaderS_lv V (.slice a n ca) l hl (hv.val.1.below bV) base (fun b hq => Nat.le_trans hb (hv.val.2 b hq).1) (Nat.le_trans hbs bV.size)
    rw [← hn] at this
    refine this.mono fun e w1 ⟨he, h1, h2, h3⟩ => ⟨he, ⟨Nat.le_trans hv.le (Nat.le_trans bV.size h2.size), HL.dep _ _ _ _, h1, hv.val.2⟩, exHavWi (exHav bV h2) hv.val.2, (bV.mono hbs).trans h3⟩
  clear bV hV hv hl hb hbs hn
  generalize ((1 + 2 * n : Nat) : Int) = q at *
  go_enter Tryz.func52, Tryz.ntmps52
  go_wp2_with fail
  rw [← HV.out]
  refine C.mono ?_
  rintro e w1 ⟨rfl, hk⟩
  have K := hidL hk
  clear hk C HV
  go_wp2_with fail
  go_ret
  exact ⟨rfl, K.out⟩
set_option maxHeartbeats 2000000 in
theorem exHeldRq (w : World) (m h p : ByteArray) (a : Option Addr) (n ca : Nat) (lo hi : Nat) (hl : n ≤ 1048576) (hv : At lo hi (HL (.slice a n ca) (mkHL 1 n)) w) :
    Calls Tryz.prog 92 #[.agg #[.string m, .string h, .string p, .slice a n ca], .int .i64 1] w fun e w' => e = .returned (.int .i64 ((1 + 2 * n : Nat) : Int)) ∧ Below w.heap.size w w' := by
  have HE := heldHeaderS_lv (w.alloc (.cells #[.string m, .string h, .string p, .slice a n ca] 33)) (.slice a n ca) n hl (hv.val.1.below ((Below.refl _ _).alloc (Nat.le_refl _) _))
  have g : ¬ ((1 + 2 * n : Nat) : Int) < 0 := by omega
  clear hv
  generalize ((1 + 2 * n : Nat) : Int) = q at *
  go_enter Tryz.func92, Tryz.ntmps92
  go_wp2_with fail
  refine HE.mono ?_
  rintro e w1 ⟨rfl, hb⟩
  have KB : Hid (Below w.heap.size w w1) := ((Below.refl _ _).alloc (Nat.le_refl _) _).trans (hb.mono (by simp))
  clear hb HE
  go_wp2_with fail
  go_ret
  exact ⟨rfl, KB.out⟩
theorem exMarkW {X : World} {a : Option Addr} {n cp : Nat} {l : List Wr} {lo hi k base : Nat} (c : At lo hi (WL (.slice a n cp) l) X) (hk : k ≤ 10000000000000) (hl : l.length ≤ 1048576) (hb : base ≤ lo) (hbX : base ≤ X.heap.size) :
    Calls Tryz.prog 53 #[.slice a n cp, .int .i64 (k : Int)] X fun e w' => e = .returned (.int .i64 ((k + n * 4 : Nat) : Int)) ∧ At lo hi (WLm (.slice a n cp) (mkdWr k l)) w' ∧ Wi lo hi X w' ∧ Below base X w' := by
  obtain ⟨rfl, _⟩ := c.val.in
  rcases c.val with ⟨e0, a', c', e⟩ | ⟨g, off, c', e, h1, h2, hat, hf⟩
  · subst e0
    refine (markWr_any X a cp k hk [] hl X.heap.size 0 (.inl rfl)).mono ?_
    rintro e w' ⟨h1, _, h3⟩
    exact ⟨h1, ⟨by rw [h3.size]; exact c.le, WLm.dep _ _ _ _, .inl ⟨rfl, a, cp, rfl⟩⟩, ⟨Nat.le_of_eq h3.size.symm, fun b o hb _ => World.cell?_of_block (w := X) (h3.block b (by omega)), fun b o hb _ => World.frozen?_of_block (w := X) (h3.block b (by omega))⟩, h3.os, h3.tape, h3.output, Nat.le_of_eq h3.size.symm, fun q hq => h3.block q (by omega)⟩
  · simp only [Value.slice.injEq, true_and] at e
    obtain ⟨rfl, rfl⟩ := e
    refine (markWr_any X _ cp k hk l hl g off (.inr ⟨rfl, hat, hf⟩)).mono ?_
    rintro e w' ⟨r1, r2, r3⟩
    refine ⟨r1, ⟨by rw [r3.size]; exact c.le, WLm.dep _ _ _ _, ?_⟩, ⟨Nat.le_of_eq r3.size.symm, fun b o hb _ => World.cell?_of_block (w := X) (r3.block b (by omega)), fun b o hb _ => World.frozen?_of_block (w := X) (r3.block b (by omega))⟩, r3.os, r3.tape, r3.output, Nat.le_of_eq r3.size.symm, fun q hq => r3.block q (by omega)⟩
    rcases r2 with r2 | r2
    · subst r2; exact .inl ⟨rfl, _, _, rfl⟩
    · exact .inr ⟨g, off, cp, by rw [mkdWr_len], h1, h2, r2⟩
theorem exHeldW {X : World} {a : Option Addr} {n cp : Nat} {l : List Wr} {lo hi k : Nat} (c : At lo hi (WLm (.slice a n cp) (mkdWr k l)) X) (hk : k ≤ 10000000000000) (hl : l.length ≤ 1048576) :
    Calls Tryz.prog 58 #[.slice a n cp, .int .i64 (k : Int)] X fun e w' => e = .returned (.int .i64 ((k + n * 4 : Nat) : Int)) ∧ Below X.heap.size X w' := by
  obtain ⟨e, h⟩ := c.val.in
  rw [mkdWr_len] at e
  subst e
  exact (heldWr_any X a cp k hk l hl h).mono fun _ _ ⟨h1, h2⟩ => ⟨h1, h2 ▸ Below.refl _ _⟩
set_option maxRecDepth 100000 in
set_option maxHeartbeats 4000000 in
theorem exMarkFl (X : World) (id : Int) (key : ByteArray) (bk ot : Bool) (du : Int) (dm : Bool) (m h p : ByteArray) (ra : Option Addr) (rn rk : Nat) (wa : Option Addr) (wn wk : Nat) (L : List Hdr) (W : List Wr) (l1 h1 l2 h2 base : Nat) (e1 : rn = L.length) (a1 : At l1 h1 (HL (.slice ra rn rk) L) X) (a2 : At l2 h2 (WL (.slice wa wn wk) W) X) (d : h1 ≤ l2 ∨ h2 ≤ l1) (b1 : base ≤ l1) (b2 : base ≤ l2) (bX : base ≤ X.heap.size) (f1 : L.length ≤ 1048576) (f2 : W.length ≤ 1048576) :
    Calls Tryz.prog 14 #[.agg #[.int .i64 id, .string key, .bool bk, .bool ot, .int .i64 du, .bool dm, .string m, .string h, .string p, .slice ra rn rk, .slice wa wn wk], .int .i64 1] X fun e w' => e = .returned (.int .i64 ((1 + 2 * rn + wn * 4 : Nat) : Int)) ∧ (At l1 h1 (HL (.slice ra rn rk) (mkHL 1 rn)) w' ∧ At l2 h2 (WLm (.slice wa wn wk) (mkdWr (1 + 2 * rn) W)) w' ∧ Wp (fun b => l1 ≤ b ∧ b < h1 ∨ l2 ≤ b ∧ b < h2) X w') ∧ Below base X w' := by
  obtain ⟨V, hV⟩ : ∃ V, V = X.alloc (.cells #[.int .i64 id, .string key, .bool bk, .bool ot, .int .i64 du, .bool dm, .string m, .string h, .string p, .slice ra rn rk, .slice wa wn wk] 36) := ⟨_, rfl⟩
  have HV : Hid (V = X.alloc (.cells #[.int .i64 id, .string key, .bool bk, .bool ot, .int .i64 du, .bool dm, .string m, .string h, .string p, .slice ra rn rk, .slice wa wn wk] 36)) := hV
  have bV : Below X.heap.size X V := by rw [hV]; exact (Below.refl _ _).alloc (Nat.le_refl _) _
  have BX := hidL bV
  have F0 : Hid (At X.heap.size (X.heap.size + 1) (Bx X.heap.size [.int .i64 id, .string key, .bool bk, .bool ot, .int .i64 du, .bool dm, .string m, .string h, .string p, .slice ra rn rk, .slice wa wn wk]) V) := by rw [hV]; exact Bx.new _ [.int .i64 id, .string key, .bool bk, .bool ot, .int .i64 du, .bool dm, .string m, .string h, .string p, .slice ra rn rk, .slice wa wn wk] _
  have G1 := hidL (a1.keep bV)
  have G2 := hidL (a2.keep bV)
  have O := hidL (show h1 ≤ X.heap.size ∧ h2 ≤ X.heap.size ∧ base ≤ X.heap.size ∧ base ≤ l1 ∧ base ≤ l2 ∧ (h1 ≤ l2 ∨ h2 ≤ l1) from ⟨a1.le, a2.le, bX, b1, b2, d⟩)
  have C1 : Hid (∀ Y, X.heap.size ≤ Y.heap.size → At l1 h1 (HL (.slice ra rn rk) L) Y → Calls Tryz.prog 52 #[.agg #[.string m, .string h, .string p, .slice ra rn rk], .int .i64 1] Y fun e w' => e = .returned (.int .i64 ((1 + 2 * rn : Nat) : Int)) ∧ At l1 h1 (HL (.slice ra rn rk) (mkHL 1 rn)) w' ∧ Wi l1 h1 Y w' ∧ Below base Y w') := fun Y hs c => exMarkRq Y m h p ra rn rk L l1 h1 base e1 f1 c b1 (by omega)
  have C2 : Hid (∀ Y, X.heap.size ≤ Y.heap.size → At l2 h2 (WL (.slice wa wn wk) W) Y → Calls Tryz.prog 53 #[.slice wa wn wk, .int .i64 ((1 + 2 * rn : Nat) : Int)] Y fun e w' => e = .returned (.int .i64 ((1 + 2 * rn + wn * 4 : Nat) : Int)) ∧ At l2 h2 (WLm (.slice wa wn wk) (mkdWr (1 + 2 * rn) W)) w' ∧ Wi l2 h2 Y w' ∧ Below base Y w') := fun Y hs c => exMarkW c (by omega) f2 b2 (by omega)
  clear a1 a2 d b1 b2 bX f1 f2 e1 hV bV
  generalize ((1 + 2 * rn + wn * 4 : Nat) : Int) = q2 at *
  generalize ((1 + 2 * rn : Nat) : Int) = q1 at *
  go_enter Tryz.func14, Tryz.ntmps14
  go_wp2_with fail
  rw [← HV.out]
  refine (C1.out V BX.out.size G1.out).mono ?_
  rintro e w1 ⟨rfl, r1, g1, hb⟩
  have K1 := hidL (BX.out.mono O.out.2.2.1 |>.trans hb)
  have W1 := hidL (show Wp (fun b => l1 ≤ b ∧ b < h1 ∨ l2 ≤ b ∧ b < h2) X w1 from (Wi.wp (Wi.of (lo := 0) (hi := 0) BX.out) (fun b _ h => by omega)).trans (g1.wp (fun b q1 q2 => .inl ⟨q1, q2⟩)))
  have M1 := hidL r1
  replace G2 := hidL (G2.out.wi g1 (by have := O.out; omega))
  replace F0 := hidL (F0.out.wi g1 (.inr O.out.1))
  have p10 := F0.out.val.1 10 _ rfl
  clear r1 g1 hb C1 G1 BX HV
  go_wp2_with fail
  refine (C2.out w1 K1.out.size G2.out).mono ?_
  rintro e w2 ⟨rfl, r2, g2, hb⟩
  have K2 := hidL (K1.out.trans hb)
  have W2 := hidL (W1.out.trans (g2.wp (fun b q1 q2 => .inr ⟨q1, q2⟩)))
  have M2 := hidL r2
  replace M1 := hidL (M1.out.wi g2 (by have := O.out; omega))
  clear r2 g2 hb C2 G2 K1 W1 F0 p10
  go_wp2_with fail
  go_ret
  exact ⟨rfl, ⟨M1.out, M2.out, W2.out⟩, K2.out⟩
set_option maxRecDepth 100000 in
set_option maxHeartbeats 4000000 in
theorem exHeldFl (X : World) (id : Int) (key : ByteArray) (bk ot : Bool) (du : Int) (dm : Bool) (m h p : ByteArray) (ra : Option Addr) (rn rk : Nat) (wa : Option Addr) (wn wk : Nat) (W : List Wr) (l1 h1 l2 h2 : Nat) (a1 : At l1 h1 (HL (.slice ra rn rk) (mkHL 1 rn)) X) (a2 : At l2 h2 (WLm (.slice wa wn wk) (mkdWr (1 + 2 * rn) W)) X) (f1 : rn ≤ 1048576) (f2 : W.length ≤ 1048576) :
    Calls Tryz.prog 54 #[.agg #[.int .i64 id, .string key, .bool bk, .bool ot, .int .i64 du, .bool dm, .string m, .string h, .string p, .slice ra rn rk, .slice wa wn wk], .int .i64 1] X fun e w' => e = .returned (.int .i64 ((1 + 2 * rn + wn * 4 : Nat) : Int)) ∧ Below X.heap.size X w' := by
  obtain ⟨V, hV⟩ : ∃ V, V = X.alloc (.cells #[.int .i64 id, .string key, .bool bk, .bool ot, .int .i64 du, .bool dm, .string m, .string h, .string p, .slice ra rn rk, .slice wa wn wk] 36) := ⟨_, rfl⟩
  have HV : Hid (V = X.alloc (.cells #[.int .i64 id, .string key, .bool bk, .bool ot, .int .i64 du, .bool dm, .string m, .string h, .string p, .slice ra rn rk, .slice wa wn wk] 36)) := hV
  have bV : Below X.heap.size X V := by rw [hV]; exact (Below.refl _ _).alloc (Nat.le_refl _) _
  have BX := hidL bV
  have F0 : Hid (At X.heap.size (X.heap.size + 1) (Bx X.heap.size [.int .i64 id, .string key, .bool bk, .bool ot, .int .i64 du, .bool dm, .string m, .string h, .string p, .slice ra rn rk, .slice wa wn wk]) V) := by rw [hV]; exact Bx.new _ [.int .i64 id, .string key, .bool bk, .bool ot, .int .i64 du, .bool dm, .string m, .string h, .string p, .slice ra rn rk, .slice wa wn wk] _
  have C1 : Hid (∀ Y, Below X.heap.size X Y → Calls Tryz.prog 92 #[.agg #[.string m, .string h, .string p, .slice ra rn rk], .int .i64 1] Y fun e w' => e = .returned (.int .i64 ((1 + 2 * rn : Nat) : Int)) ∧ Below Y.heap.size Y w') := fun Y hY => exHeldRq Y m h p ra rn rk l1 h1 f1 (a1.keep hY)
  have C2 : Hid (∀ Y, Below X.heap.size X Y → Calls Tryz.prog 58 #[.slice wa wn wk, .int .i64 ((1 + 2 * rn : Nat) : Int)] Y fun e w' => e = .returned (.int .i64 ((1 + 2 * rn + wn * 4 : Nat) : Int)) ∧ Below Y.heap.size Y w') := fun Y hY => exHeldW (a2.keep hY) (by omega) f2
  have n1 : ¬ ((1 + 2 * rn : Nat) : Int) < 0 := by omega
  have n2 : ¬ ((1 + 2 * rn + wn * 4 : Nat) : Int) < 0 := by omega
  clear a1 a2 f1 f2 hV bV
  generalize ((1 + 2 * rn + wn * 4 : Nat) : Int) = q2 at *
  generalize ((1 + 2 * rn : Nat) : Int) = q1 at *
  go_enter Tryz.func54, Tryz.ntmps54
  go_wp2_with fail
  rw [← HV.out]
  refine (C1.out V BX.out).mono ?_
  rintro e w1 ⟨rfl, hb⟩
  have K1 := hidL (BX.out.trans (hb.mono BX.out.size))
  replace F0 := hidL (F0.out.keep hb)
  have p10 := F0.out.val.1 10 _ rfl
  clear hb C1 BX HV
  go_wp2_with fail
  refine (C2.out w1 K1.out).mono ?_
  rintro e w2 ⟨rfl, hb⟩
  have K2 := hidL (K1.out.trans (hb.mono K1.out.size))
  clear hb C2 K1 F0 p10
  go_wp2_with fail
  go_ret
  exact ⟨rfl, K2.out⟩
end Go.Proofs.YtkchefbhpbpanaaGreatDoor
/-
  What ExpireWaiters answers: compared, marked, held.
-/
namespace Go.Proofs.YtkchefbhpbpanaaGreatDoor
open Go.ChangeShapes Go.WideShapes Go.ChangeAt Go.RowKit Go.Sort
set_option maxRecDepth 100000 in
set_option maxHeartbeats 8000000 in
theorem exEqW (w : World) (c : Int) (id : Int) (key : ByteArray) (bk ot : Bool) (du : Int) (dm : Bool) (m h p : ByteArray) (xa : Option Addr) (xk : Nat) (ya : Option Addr) (yk : Nat) (za : Option Addr) (zk : Nat) (xa2 : Option Addr) (xk2 : Nat) (ya2 : Option Addr) (yk2 : Nat) (za2 : Option Addr) (zk2 : Nat) (L : List Hdr) (W G : List Wr) (f1 : L.length ≤ 1048576) (f2 : W.length ≤ 1048576) (f3 : G.length ≤ 1048576) (i1 : HdsIn w xa L) (i2 : WrIn w ya W) (i3 : WrIn w za G) (j1 : HdsIn w xa2 L) (j2 : WrIn w ya2 W) (j3 : WrIn w za2 G) :
    Calls Tryz.prog 19 #[.agg #[.int .i64 c, .int .i64 id, .string key, .bool bk, .bool ot, .int .i64 du, .bool dm, .string m, .string h, .string p, .slice xa L.length xk, .slice ya W.length yk, .slice za G.length zk], .agg #[.int .i64 c, .int .i64 id, .string key, .bool bk, .bool ot, .int .i64 du, .bool dm, .string m, .string h, .string p, .slice xa2 L.length xk2, .slice ya2 W.length yk2, .slice za2 G.length zk2]] w fun e w' => e = .returned (.bool true) ∧ Below w.heap.size w w' := by
  obtain ⟨V, hV⟩ : ∃ V, V = (w.alloc (.cells #[.int .i64 c, .int .i64 id, .string key, .bool bk, .bool ot, .int .i64 du, .bool dm, .string m, .string h, .string p, .slice xa L.length xk, .slice ya W.length yk, .slice za G.length zk] 49)).alloc (.cells #[.int .i64 c, .int .i64 id, .string key, .bool bk, .bool ot, .int .i64 du, .bool dm, .string m, .string h, .string p, .slice xa2 L.length xk2, .slice ya2 W.length yk2, .slice za2 G.length zk2] 49) := ⟨_, rfl⟩
  have HV : Hid (V = (w.alloc (.cells #[.int .i64 c, .int .i64 id, .string key, .bool bk, .bool ot, .int .i64 du, .bool dm, .string m, .string h, .string p, .slice xa L.length xk, .slice ya W.length yk, .slice za G.length zk] 49)).alloc (.cells #[.int .i64 c, .int .i64 id, .string key, .bool bk, .bool ot, .int .i64 du, .bool dm, .string m, .string h, .string p, .slice xa2 L.length xk2, .slice ya2 W.length yk2, .slice za2 G.length zk2] 49)) := hV
  have KV := hidL (show Below w.heap.size w V by rw [hV]; exact ((Below.refl _ _).alloc (Nat.le_refl _) _).alloc (by simp) _)
  have F1 := hidL (show At w.heap.size (w.heap.size + 1) (Bx w.heap.size [.int .i64 c, .int .i64 id, .string key, .bool bk, .bool ot, .int .i64 du, .bool dm, .string m, .string h, .string p, .slice xa L.length xk, .slice ya W.length yk, .slice za G.length zk]) V by rw [hV]; exact (Bx.new _ [.int .i64 c, .int .i64 id, .string key, .bool bk, .bool ot, .int .i64 du, .bool dm, .string m, .string h, .string p, .slice xa L.length xk, .slice ya W.length yk, .slice za G.length zk] _).al _)
  have F2 := hidL (show At (w.heap.size + 1) (w.heap.size + 1 + 1) (Bx (w.heap.size + 1) [.int .i64 c, .int .i64 id, .string key, .bool bk, .bool ot, .int .i64 du, .bool dm, .string m, .string h, .string p, .slice xa2 L.length xk2, .slice ya2 W.length yk2, .slice za2 G.length zk2]) V by rw [hV]; exact Bx.newAt (by simp) [.int .i64 c, .int .i64 id, .string key, .bool bk, .bool ot, .int .i64 du, .bool dm, .string m, .string h, .string p, .slice xa2 L.length xk2, .slice ya2 W.length yk2, .slice za2 G.length zk2] _)
  have C1 : Hid (∀ X, Below w.heap.size w X → Calls Tryz.prog 13 #[.agg #[.int .i64 id, .string key, .bool bk, .bool ot, .int .i64 du, .bool dm, .string m, .string h, .string p, .slice xa L.length xk, .slice ya W.length yk], .agg #[.int .i64 id, .string key, .bool bk, .bool ot, .int .i64 du, .bool dm, .string m, .string h, .string p, .slice xa2 L.length xk2, .slice ya2 W.length yk2]] X fun e w' => e = .returned (.bool true) ∧ Below X.heap.size X w') := fun X hX => eqFlight_same X id key bk ot du dm m h p xa xa2 xk xk2 ya ya2 yk yk2 L W f1 f2 (i1.keep hX) (j1.keep hX) (i2.keep hX) (j2.keep hX)
  have C2 : Hid (∀ X, Below w.heap.size w X → Calls Tryz.prog 51 #[.slice za G.length zk, .slice za2 G.length zk2] X fun e w' => e = .returned (.bool true) ∧ Below X.heap.size X w') := fun X hX => eqWrS_same X za za2 zk zk2 G f3 (i3.keep hX) (j3.keep hX)
  clear hV f1 f2 f3 i1 i2 i3 j1 j2 j3
  generalize L.length = n at *
  generalize W.length = k at *
  generalize G.length = j at *
  go_enter Tryz.func19, Tryz.ntmps19
  go_upto_region 1 with fail
  rw [← HV.out]
  clear HV
  have p0 := F1.out.val.1 0 _ rfl
  have q0 := F2.out.val.1 0 _ rfl
  have L1 := hidL F1.out.val.1
  have L2 := hidL F2.out.val.1
  go_wp2_with (first | ((with_reducible refine flI_loadAt (b := w.heap.size) (off := 1) (vs := [.int .i64 c, .int .i64 id, .string key, .bool bk, .bool ot, .int .i64 du, .bool dm, .string m, .string h, .string p, .slice xa n xk, .slice ya k yk, .slice za j zk]) (us := [.int .i64 id, .string key, .bool bk, .bool ot, .int .i64 du, .bool dm, .string m, .string h, .string p, .slice xa n xk, .slice ya k yk]) ?_ ?_ ?_ L1.out ?_); exact rfl; exact rfl; exact rfl) | ((with_reducible refine flI_loadAt (b := w.heap.size + 1) (off := 1) (vs := [.int .i64 c, .int .i64 id, .string key, .bool bk, .bool ot, .int .i64 du, .bool dm, .string m, .string h, .string p, .slice xa2 n xk2, .slice ya2 k yk2, .slice za2 j zk2]) (us := [.int .i64 id, .string key, .bool bk, .bool ot, .int .i64 du, .bool dm, .string m, .string h, .string p, .slice xa2 n xk2, .slice ya2 k yk2]) ?_ ?_ ?_ L2.out ?_); exact rfl; exact rfl; exact rfl))
  refine (C1.out V KV.out).mono ?_
  rintro e w1 ⟨rfl, hb⟩
  have K1 := hidL (KV.out.trans (hb.mono KV.out.size))
  have p12 := (F1.out.keep hb).val.1 12 _ rfl
  have q12 := (F2.out.keep hb).val.1 12 _ rfl
  clear hb p0 q0 L1 L2 F1 F2 KV C1
  go_wp2_with fail
  refine (C2.out w1 K1.out).mono ?_
  rintro e w2 ⟨rfl, hb⟩
  have K2 := hidL (K1.out.trans (hb.mono K1.out.size))
  clear hb p12 q12 K1 C2
  go_wp2_with fail
  go_ret
  exact ⟨rfl, K2.out⟩
set_option maxRecDepth 100000 in
set_option maxHeartbeats 8000000 in
theorem exMarkWR (w : World) (c : Int) (id : Int) (key : ByteArray) (bk ot : Bool) (du : Int) (dm : Bool) (m h p : ByteArray) (ra : Option Addr) (rn rk : Nat) (wa : Option Addr) (wn wk : Nat) (ga : Option Addr) (gn gk : Nat) (L : List Hdr) (W G : List Wr) (lo hi base : Nat) (a : At lo hi (RW L W G ra rn rk wa wn wk ga gn gk) w) (hb : base ≤ lo) (hbX : base ≤ w.heap.size) (f1 : L.length ≤ 1000000) (f2 : W.length ≤ 1000000) (f3 : G.length ≤ 1000000) :
    Calls Tryz.prog 20 #[.agg #[.int .i64 c, .int .i64 id, .string key, .bool bk, .bool ot, .int .i64 du, .bool dm, .string m, .string h, .string p, .slice ra rn rk, .slice wa wn wk, .slice ga gn gk], .int .i64 1] w fun e w' => e = .returned (.int .i64 ((1 + 2 * rn + wn * 4 + gn * 4 : Nat) : Int)) ∧ At lo hi (RWm L W G ra rn rk wa wn wk ga gn gk) w' ∧ Wi lo hi w w' ∧ Below base w w' := by
  obtain ⟨⟨e1, e2, e3⟩, l1, h1, l2, h2, l3, h3, b1, b2, b3, ⟨d12, d13, d23⟩, a1, a2, a3⟩ := a.val
  have HH := hidL a.le
  obtain ⟨V, hV⟩ : ∃ V, V = w.alloc (.cells #[.int .i64 c, .int .i64 id, .string key, .bool bk, .bool ot, .int .i64 du, .bool dm, .string m, .string h, .string p, .slice ra rn rk, .slice wa wn wk, .slice ga gn gk] 49) := ⟨_, rfl⟩
  have HV : Hid (V = w.alloc (.cells #[.int .i64 c, .int .i64 id, .string key, .bool bk, .bool ot, .int .i64 du, .bool dm, .string m, .string h, .string p, .slice ra rn rk, .slice wa wn wk, .slice ga gn gk] 49)) := hV
  have bV : Below w.heap.size w V := by rw [hV]; exact (Below.refl _ _).alloc (Nat.le_refl _) _
  have BV := hidL bV
  have F1 := hidL (show At w.heap.size (w.heap.size + 1) (Bx w.heap.size [.int .i64 c, .int .i64 id, .string key, .bool bk, .bool ot, .int .i64 du, .bool dm, .string m, .string h, .string p, .slice ra rn rk, .slice wa wn wk, .slice ga gn gk]) V by rw [hV]; exact Bx.new _ [.int .i64 c, .int .i64 id, .string key, .bool bk, .bool ot, .int .i64 du, .bool dm, .string m, .string h, .string p, .slice ra rn rk, .slice wa wn wk, .slice ga gn gk] _)
  have A3 := hidL (a3.keep bV)
  have O := hidL (show (lo ≤ l1 ∧ l1 ≤ h1 ∧ h1 ≤ hi) ∧ (lo ≤ l2 ∧ l2 ≤ h2 ∧ h2 ≤ hi) ∧ (lo ≤ l3 ∧ l3 ≤ h3 ∧ h3 ≤ hi) ∧ (h1 ≤ l3 ∨ h3 ≤ l1) ∧ (h2 ≤ l3 ∨ h3 ≤ l2) ∧ base ≤ lo ∧ base ≤ w.heap.size ∧ hi ≤ w.heap.size from ⟨b1, b2, b3, d13, d23, hb, hbX, a.le⟩)
  have EE := hidL (show rn = L.length ∧ wn = W.length ∧ gn = G.length from ⟨e1, e2, e3⟩)
  have C1 : Hid (Calls Tryz.prog 14 #[.agg #[.int .i64 id, .string key, .bool bk, .bool ot, .int .i64 du, .bool dm, .string m, .string h, .string p, .slice ra rn rk, .slice wa wn wk], .int .i64 1] V fun e w' => e = .returned (.int .i64 ((1 + 2 * rn + wn * 4 : Nat) : Int)) ∧ (At l1 h1 (HL (.slice ra rn rk) (mkHL 1 rn)) w' ∧ At l2 h2 (WLm (.slice wa wn wk) (mkdWr (1 + 2 * rn) W)) w' ∧ Wp (fun b => l1 ≤ b ∧ b < h1 ∨ l2 ≤ b ∧ b < h2) V w') ∧ Below base V w') := exMarkFl V id key bk ot du dm m h p ra rn rk wa wn wk L W l1 h1 l2 h2 base e1 (a1.keep bV) (a2.keep bV) d12 (by omega) (by omega) (Nat.le_trans hbX bV.size) (by omega) (by omega)
  have C2 : Hid (∀ Y, base ≤ Y.heap.size → At l3 h3 (WL (.slice ga gn gk) G) Y → Calls Tryz.prog 53 #[.slice ga gn gk, .int .i64 ((1 + 2 * rn + wn * 4 : Nat) : Int)] Y fun e w' => e = .returned (.int .i64 ((1 + 2 * rn + wn * 4 + gn * 4 : Nat) : Int)) ∧ At l3 h3 (WLm (.slice ga gn gk) (mkdWr (1 + 2 * rn + wn * 4) G)) w' ∧ Wi l3 h3 Y w' ∧ Below base Y w') := fun Y hs k => exMarkW k (by omega) (by omega) (by omega) hs
  clear a a1 a2 a3 b1 b2 b3 d12 d13 d23 hb hbX f1 f2 f3 hV bV e1 e2 e3
  obtain ⟨q2, hq2⟩ : ∃ q, ((1 + 2 * rn + wn * 4 + gn * 4 : Nat) : Int) = q := ⟨_, rfl⟩
  obtain ⟨q1, hq1⟩ : ∃ q, ((1 + 2 * rn + wn * 4 : Nat) : Int) = q := ⟨_, rfl⟩
  rw [hq1] at C1
  rw [hq1, hq2] at C2
  rw [hq2]
  clear hq1 hq2
  go_enter Tryz.func20, Tryz.ntmps20
  go_upto_region 1 with fail
  rw [← HV.out]
  clear HV
  have L1 := hidL F1.out.val.1
  go_wp2_with (first | ((with_reducible refine flI_loadAt (b := w.heap.size) (off := 1) (vs := [.int .i64 c, .int .i64 id, .string key, .bool bk, .bool ot, .int .i64 du, .bool dm, .string m, .string h, .string p, .slice ra rn rk, .slice wa wn wk, .slice ga gn gk]) (us := [.int .i64 id, .string key, .bool bk, .bool ot, .int .i64 du, .bool dm, .string m, .string h, .string p, .slice ra rn rk, .slice wa wn wk]) ?_ ?_ ?_ L1.out ?_); exact rfl; exact rfl; exact rfl))
  refine C1.out.mono ?_
  rintro e w1 ⟨rfl, ⟨r1, r2, g⟩, hb⟩
  have K1 := hidL ((BV.out.mono O.out.2.2.2.2.2.2.1).trans hb)
  have M1 := hidL r1
  have M2 := hidL r2
  have W1 := hidL (show Wi lo hi w w1 from (Wi.of BV.out).trans (g.wi (fun b hb => by have := O.out; omega)))
  replace A3 := hidL (A3.out.wp g (fun b q1 q2 q => by have := O.out; omega))
  have p12 := (F1.out.wp g (fun b q1 q2 q => by have := O.out; omega)).val.1 12 _ rfl
  clear r1 r2 g hb C1 F1 L1 BV
  go_wp2_with fail
  refine (C2.out w1 (Nat.le_trans O.out.2.2.2.2.2.2.1 K1.out.size) A3.out).mono ?_
  rintro e w2 ⟨rfl, r3, g, hb⟩
  have K2 := hidL (K1.out.trans hb)
  have M3 := hidL r3
  replace M1 := hidL (M1.out.wi g (by have := O.out; omega))
  replace M2 := hidL (M2.out.wi g (by have := O.out; omega))
  have W2 := hidL (W1.out.trans (g.wide (by have := O.out; omega) (by have := O.out; omega)))
  clear r3 g hb C2 K1 W1 A3 p12
  go_wp2_with fail
  go_ret
  exact ⟨rfl, ⟨Nat.le_trans HH.out W2.out.size, RWm.dep _ _ _ _ _ _ _ _ _ _ _ _ _ _, EE.out, l1, h1, l2, h2, l3, h3, O.out.1, O.out.2.1, O.out.2.2.1, M1.out, M2.out, M3.out⟩, W2.out, K2.out⟩
set_option maxRecDepth 100000 in
set_option maxHeartbeats 8000000 in
theorem exHeldWR (w : World) (c : Int) (id : Int) (key : ByteArray) (bk ot : Bool) (du : Int) (dm : Bool) (m h p : ByteArray) (ra : Option Addr) (rn rk : Nat) (wa : Option Addr) (wn wk : Nat) (ga : Option Addr) (gn gk : Nat) (L : List Hdr) (W G : List Wr) (lo hi : Nat) (a : At lo hi (RWm L W G ra rn rk wa wn wk ga gn gk) w) (f1 : L.length ≤ 1000000) (f2 : W.length ≤ 1000000) (f3 : G.length ≤ 1000000) :
    Calls Tryz.prog 21 #[.agg #[.int .i64 c, .int .i64 id, .string key, .bool bk, .bool ot, .int .i64 du, .bool dm, .string m, .string h, .string p, .slice ra rn rk, .slice wa wn wk, .slice ga gn gk], .int .i64 1] w fun e w' => e = .returned (.int .i64 ((1 + 2 * rn + wn * 4 + gn * 4 : Nat) : Int)) ∧ Below w.heap.size w w' := by
  obtain ⟨⟨e1, e2, e3⟩, l1, h1, l2, h2, l3, h3, b1, b2, b3, a1, a2, a3⟩ := a.val
  obtain ⟨V, hV⟩ : ∃ V, V = w.alloc (.cells #[.int .i64 c, .int .i64 id, .string key, .bool bk, .bool ot, .int .i64 du, .bool dm, .string m, .string h, .string p, .slice ra rn rk, .slice wa wn wk, .slice ga gn gk] 49) := ⟨_, rfl⟩
  have HV : Hid (V = w.alloc (.cells #[.int .i64 c, .int .i64 id, .string key, .bool bk, .bool ot, .int .i64 du, .bool dm, .string m, .string h, .string p, .slice ra rn rk, .slice wa wn wk, .slice ga gn gk] 49)) := hV
  have bV : Below w.heap.size w V := by rw [hV]; exact (Below.refl _ _).alloc (Nat.le_refl _) _
  have BV := hidL bV
  have F1 := hidL (show At w.heap.size (w.heap.size + 1) (Bx w.heap.size [.int .i64 c, .int .i64 id, .string key, .bool bk, .bool ot, .int .i64 du, .bool dm, .string m, .string h, .string p, .slice ra rn rk, .slice wa wn wk, .slice ga gn gk]) V by rw [hV]; exact Bx.new _ [.int .i64 c, .int .i64 id, .string key, .bool bk, .bool ot, .int .i64 du, .bool dm, .string m, .string h, .string p, .slice ra rn rk, .slice wa wn wk, .slice ga gn gk] _)
  have C1 : Hid (Calls Tryz.prog 54 #[.agg #[.int .i64 id, .string key, .bool bk, .bool ot, .int .i64 du, .bool dm, .string m, .string h, .string p, .slice ra rn rk, .slice wa wn wk], .int .i64 1] V fun e w' => e = .returned (.int .i64 ((1 + 2 * rn + wn * 4 : Nat) : Int)) ∧ Below V.heap.size V w') := exHeldFl V id key bk ot du dm m h p ra rn rk wa wn wk W l1 h1 l2 h2 (a1.keep bV) (a2.keep bV) (by omega) (by omega)
  have C2 : Hid (∀ Y, Below w.heap.size w Y → Calls Tryz.prog 58 #[.slice ga gn gk, .int .i64 ((1 + 2 * rn + wn * 4 : Nat) : Int)] Y fun e w' => e = .returned (.int .i64 ((1 + 2 * rn + wn * 4 + gn * 4 : Nat) : Int)) ∧ Below Y.heap.size Y w') := fun Y hY => exHeldW (a3.keep hY) (by omega) (by omega)
  have n1 : ¬ ((1 + 2 * rn + wn * 4 : Nat) : Int) < 0 := by omega
  have n2 : ¬ ((1 + 2 * rn + wn * 4 + gn * 4 : Nat) : Int) < 0 := by omega
  clear a a1 a2 a3 b1 b2 b3 f1 f2 f3 hV bV e1 e2 e3
  generalize ((1 + 2 * rn + wn * 4 + gn * 4 : Nat) : Int) = q2 at *
  generalize ((1 + 2 * rn + wn * 4 : Nat) : Int) = q1 at *
  go_enter Tryz.func21, Tryz.ntmps21
  go_upto_region 1 with fail
  rw [← HV.out]
  clear HV
  have L1 := hidL F1.out.val.1
  go_wp2_with (first | ((with_reducible refine flI_loadAt (b := w.heap.size) (off := 1) (vs := [.int .i64 c, .int .i64 id, .string key, .bool bk, .bool ot, .int .i64 du, .bool dm, .string m, .string h, .string p, .slice ra rn rk, .slice wa wn wk, .slice ga gn gk]) (us := [.int .i64 id, .string key, .bool bk, .bool ot, .int .i64 du, .bool dm, .string m, .string h, .string p, .slice ra rn rk, .slice wa wn wk]) ?_ ?_ ?_ L1.out ?_); exact rfl; exact rfl; exact rfl))
  refine C1.out.mono ?_
  rintro e w1 ⟨rfl, hb⟩
  have K1 := hidL (BV.out.trans (hb.mono BV.out.size))
  have p12 := (F1.out.keep hb).val.1 12 _ rfl
  clear hb C1 F1 L1 BV
  go_wp2_with fail
  refine (C2.out w1 K1.out).mono ?_
  rintro e w2 ⟨rfl, hb⟩
  have K2 := hidL (K1.out.trans (hb.mono K1.out.size))
  clear hb C2 K1 p12
  go_wp2_with fail
  go_ret
  exact ⟨rfl, K2.out⟩
end Go.Proofs.YtkchefbhpbpanaaGreatDoor
/-
  A flight as an argument of laws.
-/
namespace Go.Proofs.YtkchefbhpbpanaaGreatDoor
open Go.ChangeShapes Go.WideShapes Go.ChangeAt Go.RowKit Go.Sort
/-- A flight that was copied. -/
def CFl (x : Fl) (K D lo hi : Nat) (X : World) : Prop := At K (K + 1) (HL (.slice (some ⟨K, 0, none⟩) x.hs.length x.hs.length) x.hs) X ∧ At D (D + 1) (WL (.slice (some ⟨D, 0, none⟩) x.ws.length x.ws.length) x.ws) X ∧ lo ≤ K ∧ K < D ∧ D < hi
theorem CFl.dep (x : Fl) (K D lo hi : Nat) : Dep lo hi (CFl x K D lo hi) := fun X X' _ h2 hc k => ⟨k.1.mv k.2.2.1 (by have := k.2.2.2; omega) h2 hc, k.2.1.mv (by have := k.2.2; omega) (by have := k.2.2.2; omega) h2 hc, k.2.2⟩
theorem CFl.in {x : Fl} {K D lo hi : Nat} {X : World} (k : CFl x K D lo hi X) : FlIn X x ⟨some ⟨K, 0, none⟩, x.hs.length, some ⟨D, 0, none⟩, x.ws.length⟩ := ⟨(k.1.val.in rfl).2, k.2.1.val.in.2, Nat.le_refl _, Nat.le_refl _⟩
theorem flA_T (w : World) (x : Fl) (r : FlR) (f : FlFit x) (hi : FlIn w x r) (X : World) (hX : Below w.heap.size w X) :
    Calls Tryz.prog 9 #[.agg #[.int .i64 x.id, .string x.key, .bool x.bk, .bool x.ot, .int .i64 x.du, .bool x.dm, .string x.m, .string x.h, .string x.p, .slice r.ha x.hs.length r.hc, .slice r.wa x.ws.length r.wc]] X fun e w' => (∃ (K : Nat) (D : Nat), e = .returned (.agg #[.int .i64 x.id, .string x.key, .bool x.bk, .bool x.ot, .int .i64 x.du, .bool x.dm, .string x.m, .string x.h, .string x.p, .slice (some ⟨K, 0, none⟩) x.hs.length x.hs.length, .slice (some ⟨D, 0, none⟩) x.ws.length x.ws.length]) ∧ At X.heap.size w'.heap.size (CFl x K D) w') ∧ Below X.heap.size X w' :=
  (toFlight_any X x.id x.key x.bk x.ot x.du x.dm x.m x.h x.p r.ha r.hc r.wa r.wc x.hs x.ws f.h f.w (hi.h.keep hX) (hi.k.keep hX)).mono fun _ _ ⟨⟨B2, h1, h2, h3, h4⟩, h5⟩ =>
    ⟨⟨_, B2, h1, Nat.le_refl _, CFl.dep _ _ _ _ _, ⟨h2.lt, HL.dep _ _ _ _, .inr ⟨_, _, rfl, h2.lt, h2.at0, h2.free⟩, fun b e => by simp only [Value.ownBlock, Option.some.injEq] at e; omega⟩, ⟨h3.lt, WL.dep _ _ _ _, .inr ⟨B2, 0, _, rfl, Nat.le_refl _, Nat.lt_succ_self _, h3.at0, fun o ho => (h3.room o (by omega)).2⟩⟩, by omega, h4, h3.lt⟩, h5⟩
theorem flA_Q (x : Fl) (f : FlFit x) (X : World) (la ha lb hb Kx Dx Ky Dy : Nat) (c : At la ha (CFl x Kx Dx) X) (d : At lb hb (CFl x Ky Dy) X) :
    Calls Tryz.prog 13 #[.agg #[.int .i64 x.id, .string x.key, .bool x.bk, .bool x.ot, .int .i64 x.du, .bool x.dm, .string x.m, .string x.h, .string x.p, .slice (some ⟨Kx, 0, none⟩) x.hs.length x.hs.length, .slice (some ⟨Dx, 0, none⟩) x.ws.length x.ws.length], .agg #[.int .i64 x.id, .string x.key, .bool x.bk, .bool x.ot, .int .i64 x.du, .bool x.dm, .string x.m, .string x.h, .string x.p, .slice (some ⟨Ky, 0, none⟩) x.hs.length x.hs.length, .slice (some ⟨Dy, 0, none⟩) x.ws.length x.ws.length]] X fun e w' => e = .returned (.bool true) ∧ Below X.heap.size X w' :=
  eqFlight_same X x.id x.key x.bk x.ot x.du x.dm x.m x.h x.p _ _ _ _ _ _ _ _ x.hs x.ws f.h f.w c.val.in.h d.val.in.h c.val.in.k d.val.in.k
theorem flA_M (x : Fl) (f : FlFit x) (base : Nat) (X : World) (lo hi K D : Nat) (c : At lo hi (CFl x K D) X) (hb : base ≤ lo) :
    Calls Tryz.prog 14 #[.agg #[.int .i64 x.id, .string x.key, .bool x.bk, .bool x.ot, .int .i64 x.du, .bool x.dm, .string x.m, .string x.h, .string x.p, .slice (some ⟨K, 0, none⟩) x.hs.length x.hs.length, .slice (some ⟨D, 0, none⟩) x.ws.length x.ws.length], .int .i64 1] X fun e w' => e = .returned (.int .i64 ((1 + 2 * x.hs.length + x.ws.length * 4 : Nat) : Int)) ∧ Wi lo hi X w' ∧ Below base X w' := by
  have h := c.val.2.2
  have h2 := c.le
  exact (exMarkFl X x.id x.key x.bk x.ot x.du x.dm x.m x.h x.p _ _ _ _ _ _ x.hs x.ws K (K + 1) D (D + 1) base rfl c.val.1 c.val.2.1 (.inl (by omega)) (by omega) (by omega) (by omega) f.h f.w).mono fun _ _ ⟨h1, ⟨_, _, g⟩, h3⟩ => ⟨h1, g.wi (fun b hb => by omega), h3⟩
end Go.Proofs.YtkchefbhpbpanaaGreatDoor
/-
  Word bytes: the table, plainly. No Go in sight.
-/
namespace Go.Proofs.YtkchefbhpbpanaaGreatDoor
def wordTab : List Bool := [false, false, false, false, false, false, false, false, false, false, false, false, false, false, false, false, false, false, false, false, false, false, false, false, false, false, false, false, false, false, false, false, false, true, false, true, true, true, true, true, false, false, true, true, false, true, true, false, true, true, true, true, true, true, true, true, true, true, false, false, false, false, false, false, false, true, true, true, true, true, true, true, true, true, true, true, true, true, true, true, true, true, true, true, true, true, true, true, true, true, true, false, false, false, true, true, false, true, true, true, true, true, true, true, true, true, true, true, true, true, true, true, true, true, true, true, true, true, true, true, true, true, true, false, true, false, true, false]
def wordI (c : Int) : Bool := wordTab.getD c.toNat false
theorem wordTab_len : wordTab.length = 128 := by decide +kernel
/-- One of the signs that are no letter and no digit. -/
def signI (c : Nat) : Bool := [33, 35, 36, 37, 38, 39, 42, 43, 45, 46, 94, 95, 124, 126].contains c
theorem table_all : ∀ c : Fin 256, wordTab.getD c.val false = (signI c.val || (decide (97 ≤ c.val) && decide (c.val ≤ 122)) || (decide (65 ≤ c.val) && decide (c.val ≤ 90)) || (decide (48 ≤ c.val) && decide (c.val ≤ 57))) := by decide +kernel
theorem wordI_eq (c : Int) (h0 : 0 ≤ c) (h1 : c < 256) : wordI c = (signI c.toNat || (decide (97 ≤ c) && decide (c ≤ 122)) || (decide (65 ≤ c) && decide (c ≤ 90)) || (decide (48 ≤ c) && decide (c ≤ 57))) := by
  obtain ⟨n, rfl⟩ := Int.eq_ofNat_of_zero_le h0
  have h2 : n < 256 := by omega
  have := table_all ⟨n, h2⟩
  simp only at this
  rw [wordI, Int.toNat_natCast, this]
  have e : ∀ a : Nat, decide (a ≤ n) = decide ((a : Int) ≤ (n : Int)) := fun a => by simp
  have e' : ∀ a : Nat, decide (n ≤ a) = decide ((n : Int) ≤ (a : Int)) := fun a => by simp
  simp only [e, e']
  rfl
theorem wordI_big (c : Int) (h : 128 ≤ c) : wordI c = false := by
  have hl := wordTab_len
  unfold wordI
  rw [List.getD_eq_getElem?_getD, List.getElem?_eq_none (by omega)]
  rfl
def allW (l : List UInt8) : Bool := l.all fun c => wordI (c.toNat : Int)
theorem allW_snoc (l : List UInt8) (c : UInt8) : allW (l ++ [c]) = (allW l && wordI (c.toNat : Int)) := by simp [allW]
theorem allW_of_take (l : List UInt8) (k : Nat) (h : allW (l.take k) = false) : allW l = false := by
  have e := List.take_append_drop k l
  rw [← e]
  simp only [allW] at h ⊢
  rw [List.all_append, h, Bool.false_and]
theorem allW_not (s : ByteArray) (k : Nat) (h : k < s.size) (hd : wordI (s[k].toNat : Int) = false) : allW s.data.toList = false := by
  refine allW_of_take _ (k + 1) ?_
  rw [take_snoc s k h, allW_snoc, hd, Bool.and_false]
def wordS (s : ByteArray) : Bool := decide (1 ≤ s.size) && decide (s.size ≤ 64) && allW s.data.toList
theorem wordS_short (s : ByteArray) (h : s.size < 1) : wordS s = false := by simp [wordS]; omega
theorem wordS_long (s : ByteArray) (h : 64 < s.size) : wordS s = false := by simp [wordS]; omega
theorem wordS_mid (s : ByteArray) (h1 : 1 ≤ s.size) (h2 : s.size ≤ 64) : wordS s = allW s.data.toList := by simp [wordS, h1, h2]
end Go.Proofs.YtkchefbhpbpanaaGreatDoor
/-
  Quotes, plainly. No Go in sight.
-/
namespace Go.Proofs.YtkchefbhpbpanaaGreatDoor
def plainI (c : Int) : Bool := c == 9 || (decide (32 ≤ c) && decide (c ≤ 126))
def plainL (l : List UInt8) : Bool := l.all fun c => plainI (c.toNat : Int)
theorem plainL_snoc (l : List UInt8) (c : UInt8) : plainL (l ++ [c]) = (plainL l && plainI (c.toNat : Int)) := by simp [plainL]
theorem plainL_of_take (l : List UInt8) (k : Nat) (h : plainL (l.take k) = false) : plainL l = false := by
  have e := List.take_append_drop k l
  rw [← e]
  simp only [plainL] at h ⊢
  rw [List.all_append, h, Bool.false_and]
theorem plainL_not (s : ByteArray) (k : Nat) (h : k < s.size) (hd : plainI (s[k].toNat : Int) = false) : plainL s.data.toList = false := by
  refine plainL_of_take _ (k + 1) ?_
  rw [take_snoc s k h, plainL_snoc, hd, Bool.and_false]
/-- One byte between quotes. -/
def quoteC (c : UInt8) : List UInt8 := if (c.toNat : Int) = 34 ∨ (c.toNat : Int) = 92 then [92, c] else [c]
def quoteB (l : List UInt8) : List UInt8 := l.flatMap quoteC
def quoteL (l : List UInt8) : List UInt8 := [34] ++ quoteB l ++ [34]
theorem quoteB_snoc (l : List UInt8) (c : UInt8) : quoteB (l ++ [c]) = quoteB l ++ quoteC c := by simp [quoteB]
theorem quoteC_yes {c : UInt8} (h : (c.toNat : Int) = 34 ∨ (c.toNat : Int) = 92) : quoteC c = [92, c] := by simp only [quoteC, if_pos h]
theorem quoteC_no {c : UInt8} (h : ¬ ((c.toNat : Int) = 34 ∨ (c.toNat : Int) = 92)) : quoteC c = [c] := by simp only [quoteC, if_neg h]
theorem quoteC_len (c : UInt8) : (quoteC c).length ≤ 2 := by unfold quoteC; split <;> simp
theorem quoteB_len (l : List UInt8) : (quoteB l).length ≤ 2 * l.length := by
  induction l with
  | nil => simp [quoteB]
  | cons c r ih =>
    have := quoteC_len c
    simp only [quoteB, List.flatMap_cons, List.length_append, List.length_cons] at ih ⊢
    omega
theorem quoteB_ge (l : List UInt8) : l.length ≤ (quoteB l).length := by
  induction l with
  | nil => simp
  | cons c r ih =>
    have : 1 ≤ (quoteC c).length := by unfold quoteC; split <;> simp
    simp only [quoteB, List.flatMap_cons, List.length_append, List.length_cons] at ih ⊢
    omega
/-- What stands between quotes, read from behind the first one; acc: what was taken. -/
def unq (acc : List UInt8) : List UInt8 → List UInt8 × Bool
  | [] => ([], false)
  | [c] => if (c.toNat : Int) = 34 then (acc, true) else ([], false)
  | c :: d :: r => if (c.toNat : Int) = 34 then (acc, false) else if (c.toNat : Int) = 92 then unq (acc ++ [d]) r else unq (acc ++ [c]) (d :: r)
/-- A text between quotes: what it tells, and whether it does. -/
def unqT (l : List UInt8) : List UInt8 × Bool := if 2 ≤ l.length ∧ l.head? = some 34 ∧ plainL l = true then unq [] l.tail else ([], false)
theorem unq_end (acc r : List UInt8) (c : UInt8) (h : (c.toNat : Int) = 34) : unq acc (c :: r) = (acc, decide (r = [])) := by
  cases r with
  | nil => rw [unq, if_pos h]; rfl
  | cons d r => rw [unq, if_pos h]; simp
theorem unq_cut (acc : List UInt8) (c : UInt8) (h : (c.toNat : Int) = 92) : unq acc [c] = ([], false) := by
  rw [unq, if_neg (by omega)]
theorem unq_esc (acc r : List UInt8) (c d : UInt8) (h : (c.toNat : Int) = 92) : unq acc (c :: d :: r) = unq (acc ++ [d]) r := by
  rw [unq, if_neg (by omega), if_pos h]
theorem unq_take (acc r : List UInt8) (c : UInt8) (h1 : ¬ (c.toNat : Int) = 34) (h2 : ¬ (c.toNat : Int) = 92) : unq acc (c :: r) = unq (acc ++ [c]) r := by
  cases r with
  | nil => simp only [unq, if_neg h1]
  | cons d r => rw [unq, if_neg h1, if_neg h2]
/-- What was quoted is read as it was. -/
theorem unq_quote (l : List UInt8) : ∀ acc, unq acc (quoteB l ++ [34]) = (acc ++ l, true) := by
  induction l with
  | nil => intro acc; rw [show quoteB [] ++ [34] = [34] from rfl, unq_end _ _ _ (by decide)]; simp
  | cons c r ih =>
    intro acc
    have e : quoteB (c :: r) ++ [34] = quoteC c ++ (quoteB r ++ [34]) := by simp [quoteB]
    rw [e]
    by_cases h : (c.toNat : Int) = 34 ∨ (c.toNat : Int) = 92
    · rw [quoteC_yes h]
      show unq acc (92 :: c :: (quoteB r ++ [34])) = _
      rw [unq_esc _ _ _ _ (by decide), ih]; simp
    · rw [quoteC_no h]
      show unq acc (c :: (quoteB r ++ [34])) = _
      rw [unq_take _ _ _ (by omega) (by omega), ih]; simp
theorem plain_quoteB (l : List UInt8) (h : plainL l = true) : plainL (quoteB l) = true := by
  induction l with
  | nil => rfl
  | cons c r ih =>
    simp only [plainL, List.all_cons, Bool.and_eq_true] at h
    have e : quoteB (c :: r) = quoteC c ++ quoteB r := by simp [quoteB]
    rw [e]
    simp only [plainL, List.all_append, Bool.and_eq_true]
    refine ⟨?_, ih h.2⟩
    unfold quoteC
    split
    · simp [h.1]; decide
    · simp [h.1]
theorem unqT_quote (l : List UInt8) (h : plainL l = true) : unqT (quoteL l) = (l, true) := by
  have hp : plainL (quoteL l) = true := by
    simp only [quoteL, plainL, List.all_append, Bool.and_eq_true]
    exact ⟨⟨by decide, plain_quoteB l h⟩, by decide⟩
  unfold unqT
  rw [if_pos ⟨by simp [quoteL], rfl, hp⟩]
  show unq [] (quoteB l ++ [34]) = _
  rw [unq_quote]; simp
end Go.Proofs.YtkchefbhpbpanaaGreatDoor
/-
  Blanks at both ends: plainly. No Go in sight.
-/
namespace Go.Proofs.YtkchefbhpbpanaaGreatDoor
def blankI (c : Int) : Bool := c == 32 || c == 9
def trimT (s : ByteArray) : ByteArray := ⟨(Lib.trimS s.data.toList [32, 9]).toArray⟩
theorem contains_blank (b : UInt8) : [(32 : UInt8), 9].contains b = blankI (b.toNat : Int) := by
  rw [Bool.eq_iff_iff]
  simp [blankI, List.contains_eq_mem]
  constructor
  · rintro (rfl | rfl) <;> simp
  · rintro (h | h)
    · exact .inl (UInt8.toNat_inj.1 (by simpa using (by omega : b.toNat = 32)))
    · exact .inr (UInt8.toNat_inj.1 (by simpa using (by omega : b.toNat = 9)))
theorem trim_between (l : List UInt8) (k m : Nat) (hkm : k ≤ m) (hm : m ≤ l.length)
    (h1 : ∀ (j : Nat) b, j < k → l[j]? = some b → blankI (b.toNat : Int) = true) (h2 : ∀ b, k < l.length → l[k]? = some b → blankI (b.toNat : Int) = false)
    (h3 : ∀ (j : Nat) b, m ≤ j → l[j]? = some b → blankI (b.toNat : Int) = true) (h4 : ∀ b, k < m → l[m - 1]? = some b → blankI (b.toNat : Int) = false) :
    Lib.trimS l [32, 9] = (l.take m).drop k := by
  by_cases e : k < m
  · have er : Lib.trimRightS l [32, 9] = l.take m := by
      refine Lib.trimRightS_take l _ m hm (fun j b hj hb => ?_) (fun b _ hb => ?_)
      · rw [contains_blank]; exact h3 j b hj hb
      · rw [contains_blank]; exact h4 b e hb
    unfold Lib.trimS
    rw [er]
    refine Lib.trimLeftS_drop _ _ k (by simp; omega) (fun j b hj hb => ?_) (fun b hb => ?_)
    · rw [List.getElem?_take_of_lt (by omega)] at hb
      rw [contains_blank]; exact h1 j b hj hb
    · rw [List.getElem?_take_of_lt (by omega)] at hb
      rw [contains_blank]; exact h2 b (by omega) hb
  · obtain rfl : k = m := by omega
    have ek : k = l.length := by
      by_cases c : k < l.length
      · have a := h2 _ c (List.getElem?_eq_getElem c)
        have b := h3 k _ (Nat.le_refl _) (List.getElem?_eq_getElem c)
        rw [a] at b; cases b
      · omega
    have er : Lib.trimRightS l [32, 9] = l.take 0 := by
      refine Lib.trimRightS_take l _ 0 (Nat.zero_le _) (fun j b _ hb => ?_) (fun b h0 _ => absurd h0 (by omega))
      have hj : j < l.length := (List.getElem?_eq_some_iff.1 hb).1
      rw [contains_blank]; exact h1 j b (by omega) hb
    unfold Lib.trimS
    rw [er]
    simp [Lib.trimLeftS, ek]
theorem trim_extract (s : ByteArray) (k m : Nat) (h : Lib.trimS s.data.toList [32, 9] = (s.data.toList.take m).drop k) : s.extract k m = trimT s := by
  apply ByteArray.ext
  unfold trimT
  rw [h]
  apply Array.ext'
  simp [List.drop_take]
end Go.Proofs.YtkchefbhpbpanaaGreatDoor
/-
  What the model's l1Lower answers.
-/
namespace Go.Proofs.YtkchefbhpbpanaaGreatDoor
open Go.ChangeShapes Go.WideShapes Go.ChangeAt Go.RowKit
def lowS (s : ByteArray) : ByteArray := ⟨(s.data.toList.map lowU).toArray⟩
set_option maxHeartbeats 1000000 in
theorem l1Lower_any (s : ByteArray) (w : World) (hs : s.size ≤ 1048576) :
    Calls Tryz.prog 141 #[.string s] w fun e w' => e = .returned (.string (lowS s)) ∧ Below w.heap.size w w' := by
  obtain ⟨C, cap, hcv, hrow⟩ : ∃ C cap, (convert 9 54 (.string s)).run Tryz.prog w = .ok (.slice (some ⟨w.heap.size, 0, none⟩) s.size cap) (w.drew.alloc (.cells C 5 (C.size, C.size + 1))) ∧ BRow (w.alloc (.cells C 5 (C.size, C.size + 1))) w.heap.size s.data.toList :=
    ⟨_, _, run_bytes_of_string w 9 54 5 s Tryz.underlying9 Tryz.underlying54 Tryz.underlying5, BRow.made w s _ _ rfl⟩
  go_enter Tryz.func141, Tryz.ntmps141
  go_wp2
  go_loopw [4] (fun i wr => ∃ k : Nat, k ≤ s.size ∧ i = .int .i64 k ∧ BRow wr w.heap.size (lowK s.data.toList k) ∧ Below w.heap.size w wr) (fun i _ => s.size - (intOf i).toNat)
  case atStart => exact ⟨0, Nat.zero_le _, rfl, by rw [lowK_zero]; exact ⟨hrow.cell, hrow.free⟩, ((Below.refl _ _).alloc (Nat.le_refl _) _).drew⟩
  case round =>
    obtain ⟨k, hk, rfl, hr, hb⟩ := hrel
    clear hcv hrow
    have hlen := lowK_length s.data.toList k
    by_cases hlt : k < s.size
    · have hl : k < s.data.toList.length := by simpa using hlt
      have hl2 : k < (lowK s.data.toList k).length := by omega
      have hc := hr.cell k hl2
      have hf := hr.free k hl2
      rw [lowK_at _ _ hl hl2] at hc
      have Y : Hid (65 ≤ (s.data.toList[k].toNat : Int) ∧ (s.data.toList[k].toNat : Int) ≤ 90 → BRow (wr.setCell ⟨w.heap.size, k, none⟩ (.int .u8 ((s.data.toList[k].toNat : Int) + 32))) w.heap.size (lowK s.data.toList (k + 1))) := by
        intro ⟨u1, u2⟩
        have := hr.set k (lowU s.data.toList[k])
        rw [lowU_yes _ u1 u2] at this
        rw [lowK_succ _ _ hl]
        exact this
      have N : Hid (¬ (65 ≤ (s.data.toList[k].toNat : Int) ∧ (s.data.toList[k].toNat : Int) ≤ 90) → BRow wr w.heap.size (lowK s.data.toList (k + 1))) := by
        intro u
        rw [lowK_keep _ _ hl u]
        exact hr
      generalize s.data.toList[k] = x at *
      clear hr hlen hl2 hl
      by_cases hU : 65 ≤ (x.toNat : Int) ∧ (x.toNat : Int) ≤ 90
      · have R : Hid (BRow (wr.setCell ⟨w.heap.size, k, none⟩ (.int .u8 ((x.toNat : Int) + 32))) w.heap.size (lowK s.data.toList (k + 1))) := Y.out hU
        obtain ⟨u1, u2⟩ := hU
        have d2 : decide ((x.toNat : Int) ≤ 90) = true := by simpa using u2
        clear Y N
        go_wp2
        go_roundw
        case rel => exact ⟨k + 1, by omega, by go_num, R.out, hb.setCell (Nat.le_refl _) _⟩
        case measure => simp [intOf]; omega
      · have R : Hid (BRow wr w.heap.size (lowK s.data.toList (k + 1))) := N.out hU
        clear Y N
        by_cases u1 : 65 ≤ (x.toNat : Int)
        · have u2 : 90 < (x.toNat : Int) := by omega
          have d2 : decide ((x.toNat : Int) ≤ 90) = false := by simp; omega
          clear hU
          go_wp2
          go_roundw
          case rel => exact ⟨k + 1, by omega, by go_num, R.out, hb⟩
          case measure => simp [intOf]; omega
        · clear hU
          go_wp2
          go_roundw
          case rel => exact ⟨k + 1, by omega, by go_num, R.out, hb⟩
          case measure => simp [intOf]; omega
    · have e : lowK s.data.toList k = s.data.toList.map lowU := lowK_all _ _ (by simp; omega)
      rw [e] at hr
      have hback := hr.back (P := Tryz.prog) 54 9 5 s.size cap (by simp) Tryz.underlying54 Tryz.underlying5 Tryz.underlying9
      have HL : Hid ((⟨(s.data.toList.map lowU).toArray⟩ : ByteArray) = lowS s) := rfl
      generalize (⟨(s.data.toList.map lowU).toArray⟩ : ByteArray) = r at *
      clear hr e hlen
      go_wp2
      go_ret
      exact ⟨ret_str HL.out, hb⟩
end Go.Proofs.YtkchefbhpbpanaaGreatDoor
/-
  Head lines, plainly: their faults, their text, how they are found, set and dropped. No Go in sight.
-/
namespace Go.Proofs.YtkchefbhpbpanaaGreatDoor
def faultH (r : Hdr) : Int := if wordS r.name = false then 5 else if 200 < r.value.size then 2 else if plainL r.value.data.toList = false then 5 else if trimT r.value = r.value then 0 else 5
def faultHL : List Hdr → Int
  | [] => 0
  | r :: l => if faultH r = 0 then faultHL l else faultH r
theorem faultHL_ok {r : Hdr} {l : List Hdr} (h : faultH r = 0) : faultHL (r :: l) = faultHL l := by rw [faultHL, if_pos h]
theorem faultHL_bad {r : Hdr} {l : List Hdr} (h : faultH r ≠ 0) : faultHL (r :: l) = faultH r := by rw [faultHL, if_neg h]
def headsC (l : List Hdr) : Int := if 20 < l.length then 2 else faultHL l
theorem headsC_many {l : List Hdr} (h : 20 < l.length) : headsC l = 2 := by unfold headsC; rw [if_pos h]
theorem headsC_few {l : List Hdr} (h : ¬ 20 < l.length) : headsC l = faultHL l := by unfold headsC; rw [if_neg h]
theorem faultH_zero {r : Hdr} (h : faultH r = 0) : wordS r.name = true ∧ r.value.size ≤ 200 ∧ plainL r.value.data.toList = true ∧ trimT r.value = r.value := by
  unfold faultH at h
  by_cases c1 : wordS r.name = false
  · rw [if_pos c1] at h; omega
  rw [if_neg c1] at h
  by_cases c2 : 200 < r.value.size
  · rw [if_pos c2] at h; omega
  rw [if_neg c2] at h
  by_cases c3 : plainL r.value.data.toList = false
  · rw [if_pos c3] at h; omega
  rw [if_neg c3] at h
  by_cases c4 : trimT r.value = r.value
  · exact ⟨by simpa using c1, by omega, by simpa using c3, c4⟩
  · rw [if_neg c4] at h; omega
theorem faultHL_zero (l : List Hdr) (h : faultHL l = 0) : ∀ (i : Nat) r, l[i]? = some r → faultH r = 0 := by
  induction l with
  | nil => intro i r hr; simp at hr
  | cons x l ih =>
    intro i r hr
    by_cases c : faultH x = 0
    · rw [faultHL_ok c] at h
      cases i with
      | zero => simp at hr; subst hr; exact c
      | succ i => exact ih h i r (by simpa using hr)
    · rw [faultHL_bad c] at h; exact absurd h c
theorem faultHL_of (l : List Hdr) (h : ∀ r ∈ l, faultH r = 0) : faultHL l = 0 := by
  induction l with
  | nil => rfl
  | cons x l ih => rw [faultHL_ok (h x (by simp))]; exact ih fun r hr => h r (by simp [hr])
theorem headsC_zero {l : List Hdr} (h : headsC l = 0) : l.length ≤ 20 ∧ ∀ (i : Nat) r, l[i]? = some r → faultH r = 0 := by
  by_cases c : 20 < l.length
  · rw [headsC_many c] at h; omega
  · rw [headsC_few c] at h; exact ⟨by omega, faultHL_zero l h⟩
theorem hword_max {s : ByteArray} (h : wordS s = true) : s.size ≤ 64 := by
  by_cases c : 64 < s.size
  · rw [wordS_long s c] at h; cases h
  · omega
theorem take_hdr {l : List Hdr} {k : Nat} {r : Hdr} (h : l[k]? = some r) : l.take (k + 1) = l.take k ++ [r] := by rw [List.take_add_one, h]; rfl
theorem happ_list (a b : ByteArray) : (a ++ b).data.toList = a.data.toList ++ b.data.toList := by simp
theorem hof_list {a : ByteArray} {l : List UInt8} (h : a.data.toList = l) : a = ⟨l.toArray⟩ := by subst h; cases a; simp
theorem hret_ct {a b : Int} {s t : ByteArray} (h : a = b ∧ s = t) : Ending.returned (.agg #[.int .i64 b, .string t]) = .returned (.agg #[.int .i64 a, .string s]) := by rw [h.1, h.2]
/-! ### their text -/
def lineL (r : Hdr) : List UInt8 := r.name.data.toList ++ [58, 32] ++ r.value.data.toList ++ [13, 10]
def packL (l : List Hdr) : List UInt8 := l.flatMap lineL
theorem packL_take {l : List Hdr} {k : Nat} {r : Hdr} (h : l[k]? = some r) : packL (l.take (k + 1)) = packL (l.take k) ++ lineL r := by rw [take_hdr h]; simp [packL]
theorem lineL_len {r : Hdr} (h : faultH r = 0) : (lineL r).length ≤ 268 := by
  obtain ⟨h1, h2, _⟩ := faultH_zero h
  have := hword_max h1
  have e1 : r.name.data.toList.length = r.name.size := by simp
  have e2 : r.value.data.toList.length = r.value.size := by simp
  simp only [lineL, List.length_append, List.length_cons, List.length_nil]
  omega
def packT (l : List Hdr) : ByteArray := if headsC l = 0 then ⟨(packL l).toArray⟩ else ⟨#[]⟩
theorem packT_ok {l : List Hdr} (h : headsC l = 0) : packT l = ⟨(packL l).toArray⟩ := by unfold packT; rw [if_pos h]
theorem packT_bad {l : List Hdr} (h : headsC l ≠ 0) : packT l = ⟨#[]⟩ := by unfold packT; rw [if_neg h]
/-! ### names that are alike -/
def askC (l : List Hdr) (name : ByteArray) : Int := if headsC l = 0 then (if wordS name = true then 0 else 5) else headsC l
theorem askC_bad {l : List Hdr} {name : ByteArray} (h : headsC l ≠ 0) : askC l name = headsC l := by unfold askC; rw [if_neg h]
theorem askC_word {l : List Hdr} {name : ByteArray} (h : headsC l = 0) (hw : wordS name = true) : askC l name = 0 := by unfold askC; rw [if_pos h, if_pos hw]
theorem askC_text {l : List Hdr} {name : ByteArray} (h : headsC l = 0) (hw : wordS name = false) : askC l name = 5 := by unfold askC; rw [if_pos h, if_neg (by rw [hw]; decide)]
theorem askC_zero {l : List Hdr} {name : ByteArray} (h : askC l name = 0) : headsC l = 0 ∧ wordS name = true := by
  by_cases c : headsC l = 0
  · cases hw : wordS name
    · rw [askC_text c hw] at h; omega
    · exact ⟨c, rfl⟩
  · rw [askC_bad c] at h; exact absurd h c
/-- The values of all lines whose name, in small letters, is x. -/
def valsOf (x : ByteArray) (l : List Hdr) : List ByteArray := (l.filter fun r => decide (lowS r.name = x)).map (·.value)
theorem valsOf_yes {x : ByteArray} {r : Hdr} (l : List Hdr) (h : lowS r.name = x) : valsOf x (l ++ [r]) = valsOf x l ++ [r.value] := by simp [valsOf, h]
theorem valsOf_no {x : ByteArray} {r : Hdr} (l : List Hdr) (h : ¬ lowS r.name = x) : valsOf x (l ++ [r]) = valsOf x l := by simp [valsOf, h]
def hjoinL (vs : List ByteArray) : List UInt8 := Lib.join (vs.map (·.data.toList)) [44, 32]
theorem hjoinL_snoc (vs : List ByteArray) (v : ByteArray) : hjoinL (vs ++ [v]) = hjoinL vs ++ (if vs = [] then [] else [44, 32]) ++ v.data.toList := by
  unfold hjoinL
  cases vs with
  | nil => simp [Lib.join, List.intercalate]
  | cons a r =>
    rw [List.map_append, List.map_cons, List.cons_append, Lib.join_cons, Lib.join_cons]
    simp [Lib.joinTail]
def joinC (l : List Hdr) (name : ByteArray) : Int := if askC l name = 0 then (if valsOf (lowS name) l = [] then 4 else 0) else askC l name
def joinT (l : List Hdr) (name : ByteArray) : ByteArray := if joinC l name = 0 then ⟨(hjoinL (valsOf (lowS name) l)).toArray⟩ else ⟨#[]⟩
theorem join_bad {l : List Hdr} {name : ByteArray} (h : askC l name ≠ 0) : joinC l name = askC l name ∧ joinT l name = ⟨#[]⟩ := by
  have e : joinC l name = askC l name := by unfold joinC; rw [if_neg h]
  exact ⟨e, by unfold joinT; rw [if_neg (by rw [e]; exact h)]⟩
theorem join_none {l : List Hdr} {name : ByteArray} (h : askC l name = 0) (hv : valsOf (lowS name) l = []) : joinC l name = 4 ∧ joinT l name = ⟨#[]⟩ := by
  have e : joinC l name = 4 := by unfold joinC; rw [if_pos h, if_pos hv]
  exact ⟨e, by unfold joinT; rw [if_neg (by rw [e]; decide)]⟩
theorem join_some {l : List Hdr} {name : ByteArray} (h : askC l name = 0) (hv : valsOf (lowS name) l ≠ []) : joinC l name = 0 ∧ joinT l name = ⟨(hjoinL (valsOf (lowS name) l)).toArray⟩ := by
  have e : joinC l name = 0 := by unfold joinC; rw [if_pos h, if_neg hv]
  exact ⟨e, by unfold joinT; rw [if_pos e]⟩
/-- What is left without the lines whose name, in small letters, is x. -/
def dropH (x : ByteArray) (l : List Hdr) : List Hdr := l.filter fun r => decide (¬ lowS r.name = x)
theorem dropH_yes {x : ByteArray} {r : Hdr} (l : List Hdr) (h : lowS r.name = x) : dropH x (l ++ [r]) = dropH x l := by simp [dropH, h]
theorem dropH_no {x : ByteArray} {r : Hdr} (l : List Hdr) (h : ¬ lowS r.name = x) : dropH x (l ++ [r]) = dropH x l ++ [r] := by simp [dropH, h]
theorem dropH_len (x : ByteArray) (l : List Hdr) : (dropH x l).length ≤ l.length := List.length_filter_le _ _
def dropL (l : List Hdr) (name : ByteArray) : List Hdr := if askC l name = 0 then dropH (lowS name) l else []
/-- Where the first line of that name stands. -/
def firstAt (x : ByteArray) : List Hdr → Option Nat
  | [] => none
  | r :: l => if lowS r.name = x then some 0 else (firstAt x l).map (· + 1)
theorem firstAt_none {x : ByteArray} : ∀ {l : List Hdr}, firstAt x l = none → ∀ r ∈ l, ¬ lowS r.name = x
  | [], _, r, hr => by simp at hr
  | y :: l, h, r, hr => by
    by_cases c : lowS y.name = x
    · rw [firstAt, if_pos c] at h; cases h
    · rw [firstAt, if_neg c] at h
      rcases List.mem_cons.1 hr with rfl | hr
      · exact c
      · exact firstAt_none (Option.map_eq_none_iff.1 h) r hr
theorem firstAt_lt {x : ByteArray} : ∀ {l : List Hdr} {i : Nat}, firstAt x l = some i → i < l.length
  | [], i, h => by simp [firstAt] at h
  | y :: l, i, h => by
    by_cases c : lowS y.name = x
    · rw [firstAt, if_pos c] at h; obtain rfl := Option.some.inj h; simp
    · rw [firstAt, if_neg c] at h
      obtain ⟨j, hj, rfl⟩ := Option.map_eq_some_iff.1 h
      have := firstAt_lt hj
      simp only [List.length_cons]; omega
theorem firstAt_snoc {x : ByteArray} (r : Hdr) : ∀ (l : List Hdr), firstAt x (l ++ [r]) = match firstAt x l with | some i => some i | none => if lowS r.name = x then some l.length else none
  | [] => by simp [firstAt]
  | y :: l => by
    by_cases c : lowS y.name = x
    · simp [firstAt, c]
    · simp only [List.cons_append, firstAt, if_neg c]
      rw [firstAt_snoc r l]
      cases firstAt x l with
      | some i => rfl
      | none => simp only [Option.map_none]; split <;> simp
theorem valsOf_first {x : ByteArray} : ∀ {l : List Hdr}, valsOf x l = [] ↔ firstAt x l = none
  | [] => by simp [valsOf, firstAt]
  | y :: l => by
    by_cases c : lowS y.name = x
    · simp [valsOf, firstAt, c]
    · have := @valsOf_first x l
      simp only [valsOf] at this
      simp only [valsOf, firstAt, List.filter_cons, c, decide_false, Bool.false_eq_true, if_false, this, Option.map_eq_none_iff]
theorem valsOf_drop {x : ByteArray} : ∀ {l : List Hdr} {i : Nat}, firstAt x l = some i → valsOf x (l.drop i) = valsOf x l ∧ valsOf x (l.take i) = []
  | [], i, h => by simp [firstAt] at h
  | y :: l, i, h => by
    by_cases c : lowS y.name = x
    · rw [firstAt, if_pos c] at h; obtain rfl := Option.some.inj h; simp [valsOf]
    · rw [firstAt, if_neg c] at h
      obtain ⟨j, hj, rfl⟩ := Option.map_eq_some_iff.1 h
      have := valsOf_drop hj
      simp only [valsOf] at this
      simp only [valsOf, List.drop_succ_cons, List.take_succ_cons, List.filter_cons, c, decide_false, Bool.false_eq_true, if_false]
      exact this
/-- A line set. -/
def setGo (h : Hdr) : Bool → List Hdr → List Hdr
  | done, [] => if done = true then [] else [h]
  | done, r :: l => if lowS r.name = lowS h.name then (if done = true then setGo h true l else h :: setGo h true l) else r :: setGo h done l
theorem setGo_done (h : Hdr) : ∀ l : List Hdr, setGo h true l = dropH (lowS h.name) l
  | [] => by simp [setGo, dropH]
  | r :: l => by
    have ih := setGo_done h l
    by_cases c : lowS r.name = lowS h.name
    · simp only [setGo, if_true, ih, dropH, List.filter_cons, c, not_true_eq_false, decide_false, Bool.false_eq_true, if_false]
    · simp [setGo, ih, dropH, c]
theorem setGo_first (h : Hdr) : ∀ (l : List Hdr), setGo h false l = match firstAt (lowS h.name) l with
    | some i => (dropH (lowS h.name) l).take i ++ [h] ++ (dropH (lowS h.name) l).drop i
    | none => dropH (lowS h.name) l ++ [h]
  | [] => by simp [setGo, firstAt, dropH]
  | r :: l => by
    have ih := setGo_first h l
    by_cases c : lowS r.name = lowS h.name
    · simp only [setGo, firstAt, setGo_done, dropH, List.filter_cons, c, not_true_eq_false, decide_false, Bool.false_eq_true, if_false]
      simp
    · simp only [setGo, if_neg c, firstAt]
      rw [ih]
      have e : dropH (lowS h.name) (r :: l) = r :: dropH (lowS h.name) l := by simp [dropH, c]
      rw [e]
      cases firstAt (lowS h.name) l with
      | none => simp
      | some i => simp
theorem dropH_all {x : ByteArray} {l : List Hdr} (h : firstAt x l = none) : dropH x l = l := by
  unfold dropH
  rw [List.filter_eq_self]
  intro r hr
  simpa using firstAt_none h r hr
theorem setGo_len (h : Hdr) (l : List Hdr) : (setGo h false l).length = match firstAt (lowS h.name) l with | some _ => (dropH (lowS h.name) l).length + 1 | none => l.length + 1 := by
  rw [setGo_first]
  cases c : firstAt (lowS h.name) l with
  | none => simp [dropH_all c]
  | some i =>
    simp only [List.length_append, List.length_cons, List.length_nil, List.length_take, List.length_drop]
    omega
theorem dropH_lt {x : ByteArray} {i : Nat} : ∀ {l : List Hdr}, firstAt x l = some i → (dropH x l).length < l.length
  | [], h => by simp [firstAt] at h
  | r :: l, h => by
    by_cases c : lowS r.name = x
    · have := dropH_len x l
      simp only [dropH] at this
      simp only [dropH, List.filter_cons, c, not_true_eq_false, decide_false, Bool.false_eq_true, if_false, List.length_cons]
      omega
    · rw [firstAt, if_neg c] at h
      obtain ⟨j, hj, rfl⟩ := Option.map_eq_some_iff.1 h
      have := dropH_lt hj
      simp only [dropH] at this
      simp only [dropH, List.filter_cons, c, not_false_eq_true, decide_true, if_true, List.length_cons]
      omega
def setC (l : List Hdr) (h : Hdr) : Int := if askC l h.name = 0 then (if faultH h = 0 then (if 20 < (setGo h false l).length then 2 else 0) else faultH h) else askC l h.name
def setL (l : List Hdr) (h : Hdr) : List Hdr := if setC l h = 0 then setGo h false l else []
end Go.Proofs.YtkchefbhpbpanaaGreatDoor
/-
  Requests and responses, plainly: their faults. No Go in sight.
-/
namespace Go.Proofs.YtkchefbhpbpanaaGreatDoor
def allP (p : Int → Bool) (l : List UInt8) : Bool := l.all fun c => p (c.toNat : Int)
theorem allP_snoc (p : Int → Bool) (l : List UInt8) (c : UInt8) : allP p (l ++ [c]) = (allP p l && p (c.toNat : Int)) := by simp [allP]
theorem allP_of_take (p : Int → Bool) (l : List UInt8) (k : Nat) (h : allP p (l.take k) = false) : allP p l = false := by
  have e := List.take_append_drop k l
  rw [← e]
  simp only [allP] at h ⊢
  rw [List.all_append, h, Bool.false_and]
theorem allP_not (p : Int → Bool) (s : ByteArray) (k : Nat) (h : k < s.size) (hd : p (s[k].toNat : Int) = false) : allP p s.data.toList = false := by
  refine allP_of_take p _ (k + 1) ?_
  rw [take_snoc s k h, allP_snoc, hd, Bool.and_false]
theorem allP_mem {p : Int → Bool} {l : List UInt8} (h : allP p l = true) : ∀ c ∈ l, p (c.toNat : Int) = true := by
  simpa [allP] using h
theorem allP_of_mem {p : Int → Bool} {l : List UInt8} (h : ∀ c ∈ l, p (c.toNat : Int) = true) : allP p l = true := by
  simpa [allP] using h
def hostI (c : Int) : Bool := (decide (97 ≤ c) && decide (c ≤ 122)) || (decide (65 ≤ c) && decide (c ≤ 90)) || (decide (48 ≤ c) && decide (c ≤ 57)) || decide (c = 46) || decide (c = 45)
theorem hostI_big (c : Int) (h : 128 ≤ c) : hostI c = false := by
  simp [hostI]; omega
def markI (c : Nat) : Bool := [47, 63, 61, 38, 58, 64, 44, 59, 40, 41].contains c
def pathI (c : Int) : Bool := markI c.toNat || wordI c
theorem pathI_big (c : Int) (h : 128 ≤ c) : pathI c = false := by
  have e : markI c.toNat = false := by
    have : 128 ≤ c.toNat := by omega
    simp [markI]; omega
  rw [pathI, e, wordI_big c h]; rfl
def hostS (s : ByteArray) : Bool := decide (1 ≤ s.size) && decide (s.size ≤ 60) && allP hostI s.data.toList
theorem hostS_short (s : ByteArray) (h : s.size < 1) : hostS s = false := by simp [hostS]; omega
theorem hostS_long (s : ByteArray) (h : 60 < s.size) : hostS s = false := by simp [hostS]; omega
theorem hostS_mid (s : ByteArray) (h1 : 1 ≤ s.size) (h2 : s.size ≤ 60) : hostS s = allP hostI s.data.toList := by simp [hostS, h1, h2]
def pathS (s : ByteArray) : Bool := decide (s.data.toList.head? = some 47) && decide (s.size ≤ 100) && allP pathI s.data.toList
theorem pathS_first (s : ByteArray) (h : ¬ s.data.toList.head? = some 47) : pathS s = false := by simp [pathS, h]
theorem pathS_long (s : ByteArray) (h : 100 < s.size) : pathS s = false := by
  have : ¬ s.size ≤ 100 := by omega
  simp [pathS, this]
theorem pathS_mid (s : ByteArray) (h1 : s.data.toList.head? = some 47) (h2 : s.size ≤ 100) : pathS s = allP pathI s.data.toList := by simp [pathS, h1, h2]
theorem head_get (s : ByteArray) (h : 0 < s.size) : s.data.toList.head? = some s[0] := by
  rw [List.head?_eq_getElem?, List.getElem?_eq_getElem (by simpa using h)]; rfl
theorem head_none (s : ByteArray) (h : s.size < 1) : s.data.toList.head? = none := by
  have : s.data.toList = [] := List.eq_nil_of_length_eq_zero (by rw [Array.length_toList]; exact Nat.lt_one_iff.1 h)
  rw [this]; rfl
def getT : ByteArray := ⟨#[71, 69, 84]⟩
def headT : ByteArray := ⟨#[72, 69, 65, 68]⟩
def hostN : ByteArray := ⟨#[104, 111, 115, 116]⟩
def methS (m : ByteArray) : Bool := decide (m = getT) || decide (m = headT)
def lineS (m h p : ByteArray) : Bool := methS m && hostS h && pathS p
def restC (l : List Hdr) : Int := if headsC l = 0 then (if valsOf hostN l = [] then (if 20 ≤ l.length then 2 else 0) else 6) else headsC l
def reqC (m h p : ByteArray) (l : List Hdr) : Int := if lineS m h p = true then restC l else 5
theorem reqC_bad {m h p : ByteArray} {l : List Hdr} (c : lineS m h p = false) : reqC m h p l = 5 := by rw [reqC, if_neg (by rw [c]; decide)]
theorem reqC_ok {m h p : ByteArray} {l : List Hdr} (c : lineS m h p = true) : reqC m h p l = restC l := by rw [reqC, if_pos c]
theorem restC_heads {l : List Hdr} (h : headsC l ≠ 0) : restC l = headsC l := by rw [restC, if_neg h]
theorem restC_host {l : List Hdr} (h : headsC l = 0) (hv : valsOf hostN l ≠ []) : restC l = 6 := by rw [restC, if_pos h, if_neg hv]
theorem restC_many {l : List Hdr} (h : headsC l = 0) (hv : valsOf hostN l = []) (hn : 20 ≤ l.length) : restC l = 2 := by rw [restC, if_pos h, if_pos hv, if_pos hn]
theorem restC_ok {l : List Hdr} (h : headsC l = 0) (hv : valsOf hostN l = []) (hn : ¬ 20 ≤ l.length) : restC l = 0 := by rw [restC, if_pos h, if_pos hv, if_neg hn]
theorem headsC_codes (l : List Hdr) : headsC l = 0 ∨ headsC l = 2 ∨ headsC l = 5 := by
  have h1 : ∀ r, faultH r = 0 ∨ faultH r = 2 ∨ faultH r = 5 := fun r => by
    unfold faultH
    repeat' split
    all_goals simp
  have h2 : ∀ l, faultHL l = 0 ∨ faultHL l = 2 ∨ faultHL l = 5 := fun l => by
    induction l with
    | nil => exact .inl rfl
    | cons r l ih =>
      by_cases c : faultH r = 0
      · rw [faultHL_ok c]; exact ih
      · rw [faultHL_bad c]; exact h1 r
  by_cases c : 20 < l.length
  · rw [headsC_many c]; simp
  · rw [headsC_few c]; exact h2 l
theorem restC_codes (l : List Hdr) : restC l = 0 ∨ restC l = 2 ∨ restC l = 5 ∨ restC l = 6 := by
  have := headsC_codes l
  unfold restC
  repeat' split
  all_goals omega
theorem reqC_codes (m h p : ByteArray) (l : List Hdr) : reqC m h p l = 0 ∨ reqC m h p l = 2 ∨ reqC m h p l = 5 ∨ reqC m h p l = 6 := by
  have := restC_codes l
  unfold reqC
  split <;> omega
/-- A request that has no fault. -/
theorem reqC_zero {m h p : ByteArray} {l : List Hdr} (c : reqC m h p l = 0) : lineS m h p = true ∧ headsC l = 0 ∧ valsOf hostN l = [] ∧ l.length < 20 := by
  cases hl : lineS m h p
  · rw [reqC_bad hl] at c; omega
  rw [reqC_ok hl] at c
  by_cases c1 : headsC l = 0
  · by_cases c2 : valsOf hostN l = []
    · by_cases c3 : 20 ≤ l.length
      · rw [restC_many c1 c2 c3] at c; omega
      · exact ⟨rfl, c1, c2, by omega⟩
    · rw [restC_host c1 c2] at c; omega
  · rw [restC_heads c1] at c; exact absurd c c1
theorem lineS_true {m h p : ByteArray} (c : lineS m h p = true) : methS m = true ∧ hostS h = true ∧ pathS p = true := by
  simp only [lineS, Bool.and_eq_true] at c; exact ⟨c.1.1, c.1.2, c.2⟩
def respC (s : Int) (l : List Hdr) (n : Nat) : Int := if s < 200 ∨ 599 < s then 3 else if headsC l = 0 then (if 2000 < n then 2 else 0) else headsC l
theorem respC_range {s : Int} {l : List Hdr} {n : Nat} (h : s < 200 ∨ 599 < s) : respC s l n = 3 := by rw [respC, if_pos h]
theorem respC_heads {s : Int} {l : List Hdr} {n : Nat} (h : ¬ (s < 200 ∨ 599 < s)) (h1 : headsC l ≠ 0) : respC s l n = headsC l := by rw [respC, if_neg h, if_neg h1]
theorem respC_many {s : Int} {l : List Hdr} {n : Nat} (h : ¬ (s < 200 ∨ 599 < s)) (h1 : headsC l = 0) (h2 : 2000 < n) : respC s l n = 2 := by rw [respC, if_neg h, if_pos h1, if_pos h2]
theorem respC_ok {s : Int} {l : List Hdr} {n : Nat} (h : ¬ (s < 200 ∨ 599 < s)) (h1 : headsC l = 0) (h2 : ¬ 2000 < n) : respC s l n = 0 := by rw [respC, if_neg h, if_pos h1, if_neg h2]
theorem respC_codes (s : Int) (l : List Hdr) (n : Nat) : respC s l n = 0 ∨ respC s l n = 2 ∨ respC s l n = 3 ∨ respC s l n = 5 := by
  have := headsC_codes l
  unfold respC
  repeat' split
  all_goals omega
theorem respC_zero {s : Int} {l : List Hdr} {n : Nat} (c : respC s l n = 0) : 200 ≤ s ∧ s ≤ 599 ∧ headsC l = 0 ∧ n ≤ 2000 := by
  by_cases c1 : s < 200 ∨ 599 < s
  · rw [respC_range c1] at c; omega
  by_cases c2 : headsC l = 0
  · by_cases c3 : 2000 < n
    · rw [respC_many c1 c2 c3] at c; omega
    · exact ⟨by omega, by omega, c2, by omega⟩
  · rw [respC_heads c1 c2] at c; exact absurd c c2
end Go.Proofs.YtkchefbhpbpanaaGreatDoor
/-
  A flight that is copied, by the model.
-/
namespace Go.Proofs.YtkchefbhpbpanaaGreatDoor
open Go.ChangeShapes Go.WideShapes Go.ChangeAt Go.RowKit Go.Sort
theorem exOwnHset {w : World} {base : Nat} {v : Value} {l : List Hdr} (h : OwnH w base v l) {b i : Nat} {u : Value} (hb : b < base) : OwnH (w.setCell ⟨b, i, none⟩ u) base v l := by
  refine World.ownsRow.kept h (gbSet w b i u) ?_
  cases e : Value.ownBlock _ with
  | none => exact .inl rfl
  | some q => right; intro e2; have := row_ge h q e; have := Option.some.inj e2; omega
set_option maxRecDepth 100000 in
set_option maxHeartbeats 4000000 in
theorem l5Copy6_any (w : World) (R : Nat) (m h p : ByteArray) (a : Option Addr) (cap : Nat) (l : List Hdr) (hl : l.length ≤ 1048576) (hi : HdsIn w a l) (hR : R < w.heap.size) (b0 : w.cell? ⟨R, 6, none⟩ = some (.string m)) (b1 : w.cell? ⟨R, 7, none⟩ = some (.string h)) (b2 : w.cell? ⟨R, 8, none⟩ = some (.string p)) (b3 : w.cell? ⟨R, 9, none⟩ = some (.slice a l.length cap)) :
    Calls Tryz.prog 83 #[.pointer (some ⟨R, 6, none⟩)] w fun e w' => (∃ va vc, e = .returned (.agg #[.string m, .string h, .string p, .slice va l.length vc]) ∧ OwnH w' w.heap.size (.slice va l.length vc) l) ∧ Below w.heap.size w w' := by
  have CC : Hid (∀ X, Below w.heap.size w X → Calls Tryz.prog 108 #[.slice a l.length cap] X fun e w' => (∃ va vc, e = .returned (.slice va l.length vc) ∧ OwnH w' X.heap.size (.slice va l.length vc) l) ∧ Below X.heap.size X w') := fun X hX => (l4Copy_in X a cap l hl (hi.keep hX)).mono fun e w' ⟨⟨v, q1, q2⟩, q3⟩ => by
    obtain ⟨va, vc, rfl, _⟩ := row_form q2
    exact ⟨⟨va, vc, q1, q2⟩, q3⟩
  have KB : Hid (∀ X, Below w.heap.size w X → X.cell? ⟨R, 6, none⟩ = some (.string m) ∧ X.cell? ⟨R, 7, none⟩ = some (.string h) ∧ X.cell? ⟨R, 8, none⟩ = some (.string p) ∧ X.cell? ⟨R, 9, none⟩ = some (.slice a l.length cap)) := fun X hX => ⟨by rw [hX.cell (p := ⟨R, 6, none⟩) hR]; exact b0, by rw [hX.cell (p := ⟨R, 7, none⟩) hR]; exact b1, by rw [hX.cell (p := ⟨R, 8, none⟩) hR]; exact b2, by rw [hX.cell (p := ⟨R, 9, none⟩) hR]; exact b3⟩
  clear hi b0 b1 b2 b3 hl
  generalize l.length = n at *
  obtain ⟨p0, p1, p2, p3⟩ := KB.out (w.alloc (.cells #[.string ⟨#[]⟩, .string ⟨#[]⟩, .string ⟨#[]⟩, .slice none 0 0] 33)) ((Below.refl _ _).alloc (Nat.le_refl _) _)
  have hRw := hR
  obtain ⟨V, hV⟩ : ∃ V, V = (w.alloc (.cells #[.string ⟨#[]⟩, .string ⟨#[]⟩, .string ⟨#[]⟩, .slice none 0 0] 33)).alloc (.cells #[.string m, .string h, .string p, .slice a n cap] 33) := ⟨_, rfl⟩
  have HV : Hid (V = (w.alloc (.cells #[.string ⟨#[]⟩, .string ⟨#[]⟩, .string ⟨#[]⟩, .slice none 0 0] 33)).alloc (.cells #[.string m, .string h, .string p, .slice a n cap] 33)) := hV
  have KV : Hid (Below w.heap.size w V ∧ At w.heap.size (w.heap.size + 1) (Bx w.heap.size [.string ⟨#[]⟩, .string ⟨#[]⟩, .string ⟨#[]⟩, .slice none 0 0]) V ∧ At (w.heap.size + 1) (w.heap.size + 1 + 1) (Bx (w.heap.size + 1) [.string m, .string h, .string p, .slice a n cap]) V) := by
    rw [hV]
    exact ⟨((Below.refl _ _).alloc (Nat.le_refl _) _).alloc (by simp) _, (Bx.new _ [.string ⟨#[]⟩, .string ⟨#[]⟩, .string ⟨#[]⟩, .slice none 0 0] _).al _, Bx.newAt (by simp) [.string m, .string h, .string p, .slice a n cap] _⟩
  have q3 := (KB.out V KV.out.1).2.2.2
  rw [HV.out] at q3
  clear hV
  go_enter Tryz.func83, Tryz.ntmps83
  go_wp2_with fail
  rw [← HV.out]
  refine (CC.out V KV.out.1).mono ?_
  rintro r0 w1 ⟨⟨va, vc, rfl, ho⟩, hb⟩
  have K1 : Hid (Below w.heap.size w w1 ∧ At w.heap.size (w.heap.size + 1) (Bx w.heap.size [.string ⟨#[]⟩, .string ⟨#[]⟩, .string ⟨#[]⟩, .slice none 0 0]) w1 ∧ At (w.heap.size + 1) (w.heap.size + 1 + 1) (Bx (w.heap.size + 1) [.string m, .string h, .string p, .slice a n cap]) w1 ∧ OwnH w1 V.heap.size (.slice va n vc) l ∧ w.heap.size + 2 ≤ V.heap.size) := ⟨KV.out.1.trans (hb.mono KV.out.1.size), KV.out.2.1.keep hb, KV.out.2.2.keep hb, ho, by rw [HV.out]; simp⟩
  clear ho hb KV HV CC KB p0 p1 p2 p3 q3
  have z0 := K1.out.2.1.val.1 0 _ rfl
  have z1 := K1.out.2.1.val.1 1 _ rfl
  have z2 := K1.out.2.1.val.1 2 _ rfl
  have z3 := K1.out.2.1.val.1 3 _ rfl
  have zf0 := K1.out.2.1.val.2 0
  have zf1 := K1.out.2.1.val.2 1
  have zf2 := K1.out.2.1.val.2 2
  have zf3 := K1.out.2.1.val.2 3
  have y0 := K1.out.2.2.1.val.1 0 _ rfl
  have y1 := K1.out.2.2.1.val.1 1 _ rfl
  have y2 := K1.out.2.2.1.val.1 2 _ rfl
  have y3 := K1.out.2.2.1.val.1 3 _ rfl
  have yf3 := K1.out.2.2.1.val.2 3
  have HF : Hid (∀ X, X = putAll (w1.setCell ⟨w.heap.size + 1, 3, none⟩ (.slice va n vc)) w.heap.size 0 [.string m, .string h, .string p, .slice va n vc] → OwnH X w.heap.size (.slice va n vc) l ∧ Below w.heap.size w X) := by
    rintro X rfl
    have hx := K1.out.2.2.2.1
    have hs := K1.out.2.2.2.2
    refine ⟨?_, below_putAll (Nat.le_refl _) _ 0 (K1.out.1.setCell (by simp) _)⟩
    have e : ∀ {Y : World} {b i : Nat} (u : Value), b < V.heap.size → OwnH Y V.heap.size (.slice va n vc) l → OwnH (Y.setCell ⟨b, i, none⟩ u) V.heap.size (.slice va n vc) l := fun u hb k => exOwnHset k hb
    have k1 := e (b := w.heap.size + 1) (i := 3) (.slice va n vc) (by omega) hx
    have k2 := e (b := w.heap.size) (i := 0) (.string m) (by omega) k1
    have k3 := e (b := w.heap.size) (i := 1) (.string h) (by omega) k2
    have k4 := e (b := w.heap.size) (i := 2) (.string p) (by omega) k3
    have k5 := e (b := w.heap.size) (i := 3) (.slice va n vc) (by omega) k4
    have hle : w.heap.size ≤ V.heap.size := by omega
    exact row_lower k5 hle
  have KU := K1.out.2.1.set (b := w.heap.size + 1) (i := 3) (.slice va n vc) (.inr (Nat.le_refl _))
  have x0 := KU.val.1 0 _ rfl
  have x1 := KU.val.1 1 _ rfl
  have x2 := KU.val.1 2 _ rfl
  have x3 := KU.val.1 3 _ rfl
  clear K1 KU
  go_wp2_with fail
  exact bodyPost_ret (v := .agg #[.string m, .string h, .string p, .slice va n vc]) (by simp [results, Tryz.results83, go_sem, x0, x1, x2, x3]) rfl ⟨⟨va, vc, rfl, (HF.out _ rfl).1⟩, (HF.out _ rfl).2⟩
set_option maxRecDepth 100000 in
set_option maxHeartbeats 16000000 in
theorem l12Copy_any (w : World) (O : Nat) (x : Fl) (r : FlR) (hl : x.hs.length ≤ 1048576) (hwl : x.ws.length ≤ 1048576) (hi : FlIn w x r) (hB : At O (O + 1) (Bx O [.int .i64 x.id, .string x.key, .bool x.bk, .bool x.ot, .int .i64 x.du, .bool x.dm, .string x.m, .string x.h, .string x.p, .slice r.ha x.hs.length r.hc, .slice r.wa x.ws.length r.wc]) w) :
    Calls Tryz.prog 41 #[.pointer (some ⟨O, 0, none⟩)] w fun e w' => (∃ va vc ua uc, e = .returned (.agg #[.int .i64 x.id, .string x.key, .bool x.bk, .bool x.ot, .int .i64 x.du, .bool x.dm, .string x.m, .string x.h, .string x.p, .slice va x.hs.length vc, .slice ua x.ws.length uc]) ∧ At w.heap.size w'.heap.size (FR x.hs x.ws va x.hs.length vc ua x.ws.length uc) w') ∧ Below w.heap.size w w' := by
  obtain ⟨Z, hZ⟩ : ∃ Z, Z = w.alloc (.cells #[.int .i64 0, .string ⟨#[]⟩, .bool false, .bool false, .int .i64 0, .bool false, .string ⟨#[]⟩, .string ⟨#[]⟩, .string ⟨#[]⟩, .slice none 0 0, .slice none 0 0] 36) := ⟨_, rfl⟩
  have HZ : Hid (Z = w.alloc (.cells #[.int .i64 0, .string ⟨#[]⟩, .bool false, .bool false, .int .i64 0, .bool false, .string ⟨#[]⟩, .string ⟨#[]⟩, .string ⟨#[]⟩, .slice none 0 0, .slice none 0 0] 36)) := hZ
  have bZ : Below w.heap.size w Z := by rw [hZ]; exact (Below.refl _ _).alloc (Nat.le_refl _) _
  obtain ⟨V, hV⟩ : ∃ V, V = Z.alloc (.cells #[.int .i64 x.id, .string x.key, .bool x.bk, .bool x.ot, .int .i64 x.du, .bool x.dm, .string x.m, .string x.h, .string x.p, .slice r.ha x.hs.length r.hc, .slice r.wa x.ws.length r.wc] 36) := ⟨_, rfl⟩
  have HV : Hid (V = Z.alloc (.cells #[.int .i64 x.id, .string x.key, .bool x.bk, .bool x.ot, .int .i64 x.du, .bool x.dm, .string x.m, .string x.h, .string x.p, .slice r.ha x.hs.length r.hc, .slice r.wa x.ws.length r.wc] 36)) := hV
  have bV : Below w.heap.size w V := by rw [hV]; exact bZ.alloc bZ.size _
  have szZ : Z.heap.size = w.heap.size + 1 := by rw [hZ]; simp
  have KV : Hid (Below w.heap.size w V ∧ w.heap.size + 2 ≤ V.heap.size) := ⟨bV, by rw [hV]; simp; omega⟩
  have FZ := hidL (show At w.heap.size (w.heap.size + 1) (Bx w.heap.size [.int .i64 0, .string ⟨#[]⟩, .bool false, .bool false, .int .i64 0, .bool false, .string ⟨#[]⟩, .string ⟨#[]⟩, .string ⟨#[]⟩, .slice none 0 0, .slice none 0 0]) V by rw [hV, hZ]; exact (Bx.new _ [.int .i64 0, .string ⟨#[]⟩, .bool false, .bool false, .int .i64 0, .bool false, .string ⟨#[]⟩, .string ⟨#[]⟩, .string ⟨#[]⟩, .slice none 0 0, .slice none 0 0] _).al _)
  have FB := hidL (show At (w.heap.size + 1) (w.heap.size + 1 + 1) (Bx (w.heap.size + 1) [.int .i64 x.id, .string x.key, .bool x.bk, .bool x.ot, .int .i64 x.du, .bool x.dm, .string x.m, .string x.h, .string x.p, .slice r.ha x.hs.length r.hc, .slice r.wa x.ws.length r.wc]) V by rw [hV]; exact Bx.newAt szZ [.int .i64 x.id, .string x.key, .bool x.bk, .bool x.ot, .int .i64 x.du, .bool x.dm, .string x.m, .string x.h, .string x.p, .slice r.ha x.hs.length r.hc, .slice r.wa x.ws.length r.wc] _)
  have FO := hidL (hB.keep bV)
  have hlO : O < w.heap.size := hB.le
  have hOz : At O (O + 1) (Bx O [.int .i64 x.id, .string x.key, .bool x.bk, .bool x.ot, .int .i64 x.du, .bool x.dm, .string x.m, .string x.h, .string x.p, .slice r.ha x.hs.length r.hc, .slice r.wa x.ws.length r.wc]) Z := hB.keep bZ
  have LZ := hidL hOz.val.1
  have C5 : Hid (∀ X, Below w.heap.size w X → X.cell? ⟨O, 6, none⟩ = some (.string x.m) → X.cell? ⟨O, 7, none⟩ = some (.string x.h) → X.cell? ⟨O, 8, none⟩ = some (.string x.p) → X.cell? ⟨O, 9, none⟩ = some (.slice r.ha x.hs.length r.hc) → Calls Tryz.prog 83 #[.pointer (some ⟨O, 6, none⟩)] X fun e w' => (∃ va vc, e = .returned (.agg #[.string x.m, .string x.h, .string x.p, .slice va x.hs.length vc]) ∧ OwnH w' X.heap.size (.slice va x.hs.length vc) x.hs) ∧ Below X.heap.size X w') := fun X hX b0 b1 b2 b3 => l5Copy6_any X O x.m x.h x.p r.ha r.hc x.hs hl (hi.h.keep hX) (Nat.lt_of_lt_of_le hlO hX.size) b0 b1 b2 b3
  have HW := hidL (show ∀ X, Below w.heap.size w X → WrIn X r.wa x.ws from fun X hX => hi.k.keep hX)
  have HWL := hidL hwl
  clear hZ hV bV bZ hB hi hl hwl hOz
  generalize x.hs.length = n at *
  obtain ⟨k, hk⟩ : ∃ k, x.ws.length = k := ⟨_, rfl⟩
  have HK : Hid (x.ws.length = k) := hk
  rw [hk] at HV FB FO LZ ⊢
  clear hk
  go_enter Tryz.func41, Tryz.ntmps41
  go_upto_region 1 with fail
  rw [← HZ.out]
  go_upto_region 2 with (first | ((with_reducible refine flI_load (b := O) (vs := [.int .i64 x.id, .string x.key, .bool x.bk, .bool x.ot, .int .i64 x.du, .bool x.dm, .string x.m, .string x.h, .string x.p, .slice r.ha n r.hc, .slice r.wa k r.wc]) ?_ ?_ LZ.out ?_); exact rfl; exact rfl) | ((with_reducible refine flI_store (c' := #[.int .i64 x.id, .string x.key, .bool x.bk, .bool x.ot, .int .i64 x.du, .bool x.dm, .string x.m, .string x.h, .string x.p, .slice r.ha n r.hc, .slice r.wa k r.wc]) ?_ ?_ ?_ ?_ ?_ ?_); exact rfl; exact rfl; exact rfl; exact rfl; exact rfl))
  rw [← HV.out]
  clear LZ HZ HV
  have q6 := FO.out.val.1 6 _ rfl
  have q7 := FO.out.val.1 7 _ rfl
  have q8 := FO.out.val.1 8 _ rfl
  have q9 := FO.out.val.1 9 _ rfl
  go_wp2_with fail
  refine (C5.out V KV.out.1 q6 q7 q8 q9).mono ?_
  rintro e0 w1 ⟨⟨va, vc, rfl, ho⟩, hb⟩
  have K1 := hidL (KV.out.1.trans (hb.mono KV.out.1.size))
  have HH := hidL ho
  have S1 := hidL (Nat.le_trans KV.out.2 hb.size)
  replace FZ := hidL (FZ.out.keep hb)
  replace FB := hidL (FB.out.keep hb)
  replace FO := hidL (FO.out.keep hb)
  clear hb ho q6 q7 q8 q9 C5
  obtain ⟨U, hU⟩ : ∃ U, U = (((w1.setCell ⟨w.heap.size + 1, 6, none⟩ (.string x.m)).setCell ⟨w.heap.size + 1, 7, none⟩ (.string x.h)).setCell ⟨w.heap.size + 1, 8, none⟩ (.string x.p)).setCell ⟨w.heap.size + 1, 9, none⟩ (.slice va n vc) := ⟨_, rfl⟩
  have HU : Hid (U = (((w1.setCell ⟨w.heap.size + 1, 6, none⟩ (.string x.m)).setCell ⟨w.heap.size + 1, 7, none⟩ (.string x.h)).setCell ⟨w.heap.size + 1, 8, none⟩ (.string x.p)).setCell ⟨w.heap.size + 1, 9, none⟩ (.slice va n vc)) := hU
  have a6 := FB.out.val.1 6 _ rfl
  have a7 := FB.out.val.1 7 _ rfl
  have a8 := FB.out.val.1 8 _ rfl
  have a9 := FB.out.val.1 9 _ rfl
  have f6 := FB.out.val.2 6
  have f7 := FB.out.val.2 7
  have f8 := FB.out.val.2 8
  have f9 := FB.out.val.2 9
  have KU := hidL (show Below w.heap.size w U by rw [hU]; exact (((K1.out.setCell (by simp only; omega) _).setCell (by simp only; omega) _).setCell (by simp only; omega) _).setCell (by simp only; omega) _)
  have FZ2 := hidL (show At w.heap.size (w.heap.size + 1) (Bx w.heap.size [.int .i64 0, .string ⟨#[]⟩, .bool false, .bool false, .int .i64 0, .bool false, .string ⟨#[]⟩, .string ⟨#[]⟩, .string ⟨#[]⟩, .slice none 0 0, .slice none 0 0]) U by rw [hU]; exact (((FZ.out.set _ (by omega)).set _ (by omega)).set _ (by omega)).set _ (by omega))
  have FO2 := hidL (show At O (O + 1) (Bx O [.int .i64 x.id, .string x.key, .bool x.bk, .bool x.ot, .int .i64 x.du, .bool x.dm, .string x.m, .string x.h, .string x.p, .slice r.ha n r.hc, .slice r.wa k r.wc]) U by rw [hU]; exact (((FO.out.set _ (by omega)).set _ (by omega)).set _ (by omega)).set _ (by omega))
  have FB2 := hidL (show At (w.heap.size + 1) (w.heap.size + 1 + 1) (Bx (w.heap.size + 1) [.int .i64 x.id, .string x.key, .bool x.bk, .bool x.ot, .int .i64 x.du, .bool x.dm, .string x.m, .string x.h, .string x.p, .slice va n vc, .slice r.wa k r.wc]) U by rw [hU]; exact Bx.put (Bx.put (Bx.put (Bx.put FB.out 6 _ (by simp)) 7 _ (by simp)) 8 _ (by simp)) 9 _ (by simp))
  have HH2 := hidL (show OwnH U V.heap.size (.slice va n vc) x.hs by rw [hU]; have h2 := KV.out.2; exact exOwnHset (exOwnHset (exOwnHset (exOwnHset HH.out (by omega)) (by omega)) (by omega)) (by omega))
  have HR := hidL (show (w.heap.size ≤ sLo (.slice va n vc) w.heap.size ∧ sHi (.slice va n vc) w.heap.size ≤ U.heap.size) ∧ (w.heap.size + 2 ≤ sLo (.slice va n vc) w.heap.size ∨ sHi (.slice va n vc) w.heap.size = w.heap.size) ∧ (∀ q, (Value.slice va n vc).ownBlock = some q → w.heap.size + 2 ≤ q ∧ q < U.heap.size) from ⟨row_stretch HH2.out (by have := KV.out.2; omega) KU.out.size, s_off (fun q hq => Nat.le_trans KV.out.2 (row_ge HH2.out q hq)), fun q hq => ⟨Nat.le_trans KV.out.2 (row_ge HH2.out q hq), (World.ownsRow.lt HH2.out q hq).2⟩⟩)
  have AH := hidL (RowH.hl HH2.out (b := w.heap.size) (by have := KV.out.2; omega) KU.out.size)
  clear HH2
  have SU := hidL (show U.heap.size = w1.heap.size by rw [hU]; simp)
  clear hU
  go_upto_region 3 with fail
  rw [← HU.out]
  clear HU a6 a7 a8 a9 f6 f7 f8 f9 FB FO FZ HH K1
  obtain ⟨Y, hY⟩ : ∃ Y, Y = U.alloc (.cells #[] 41) := ⟨_, rfl⟩
  have HY : Hid (Y = U.alloc (.cells #[] 41)) := hY
  have bY : Below U.heap.size U Y := by rw [hY]; exact (Below.refl _ _).alloc (Nat.le_refl _) _
  have KY := hidL (KU.out.trans (bY.mono KU.out.size))
  have OY := hidL (show OwnWr Y U.heap.size (.slice (some ⟨U.heap.size, 0, none⟩) 0 0) [] by rw [hY]; exact OwnWr.made0 U U.heap.size (Nat.le_refl _))
  have o10 := (FO2.out.keep bY).val.1 10 _ rfl
  have FZ3 := hidL (FZ2.out.keep bY)
  have FB3 := hidL (FB2.out.keep bY)
  have AH3 := hidL (AH.out.keep bY)
  rw [hY] at o10
  have WY := hidL (HW.out Y KY.out)
  have hUY : U.heap.size ≤ Y.heap.size := bY.size
  clear hY bY FZ2 FB2 FO2 AH HW
  go_upto_region 4 with (at_builtin; rw [← HY.out]; refine wpList_appendInWr Y rfl (.tmp 12) (.tmp 16) rfl U.heap.size (.slice (some ⟨U.heap.size, 0, none⟩) 0 0) [] x.ws r.wa r.wc rfl (by rw [HK.out]; rfl) OY.out WY.out (by have := HWL.out; have := HK.out; simp; omega) hUY ?_; intro v2 w3 h1 h2; rw [List.nil_append] at h1; obtain ⟨ua, uc, rfl, _, _⟩ := OwnWr.in h1; rw [HK.out] at h1 ⊢; have OW := hidL h1; have BW := hidL h2; have FB4 := hidL (FB3.out.lowB h2 (by have := S1.out; have := SU.out; omega)); have b10 := FB4.out.val.1 10 _ rfl; have bf10 := FB4.out.val.2 10; clear h1 h2)
  obtain ⟨T, hT⟩ : ∃ T, T = w3.setCell ⟨w.heap.size + 1, 10, none⟩ (.slice ua k uc) := ⟨_, rfl⟩
  have HT : Hid (T = w3.setCell ⟨w.heap.size + 1, 10, none⟩ (.slice ua k uc)) := hT
  rw [← HT.out]
  clear HT b10 bf10
  have s0 := S1.out
  have s1 := SU.out
  have s2 := BW.out.size
  have FB5 := hidL (show At (w.heap.size + 1) (w.heap.size + 1 + 1) (Bx (w.heap.size + 1) [.int .i64 x.id, .string x.key, .bool x.bk, .bool x.ot, .int .i64 x.du, .bool x.dm, .string x.m, .string x.h, .string x.p, .slice va n vc, .slice ua k uc]) T by rw [hT]; exact Bx.put FB4.out 10 _ (by simp))
  have FZ5 := hidL (show At w.heap.size (w.heap.size + 1) (Bx w.heap.size [.int .i64 0, .string ⟨#[]⟩, .bool false, .bool false, .int .i64 0, .bool false, .string ⟨#[]⟩, .string ⟨#[]⟩, .string ⟨#[]⟩, .slice none 0 0, .slice none 0 0]) T by rw [hT]; exact (FZ3.out.lowB BW.out (by omega)).set _ (by omega))
  have KT := hidL (show Below w.heap.size w T by rw [hT]; exact (KY.out.trans (BW.out.mono (by omega))).setCell (by simp only; omega) _)
  have AW := hidL (OwnWr.wl OW.out (b := w.heap.size) (by omega) (by omega))
  have RW2 := hidL (show (w.heap.size ≤ sLo (.slice ua k uc) w.heap.size ∧ sHi (.slice ua k uc) w.heap.size ≤ w3.heap.size) ∧ (w.heap.size + 2 ≤ sLo (.slice ua k uc) w.heap.size ∨ sHi (.slice ua k uc) w.heap.size = w.heap.size) ∧ (sHi (.slice va n vc) w.heap.size ≤ sLo (.slice ua k uc) w.heap.size ∨ sHi (.slice ua k uc) w.heap.size ≤ sLo (.slice va n vc) w.heap.size) from ⟨row_stretch OW.out (by omega) (by omega), s_off (fun q hq => by have := row_ge OW.out q hq; omega), s_apart (fun q hq e => by have := HR.out.2.2 q hq; have := row_ge OW.out q e; omega) (fun q hq => by have := HR.out.2.2 q hq; omega) (fun q hq => by have := row_ge OW.out q hq; omega)⟩)
  have AH5 := hidL (show At (sLo (.slice va n vc) w.heap.size) (sHi (.slice va n vc) w.heap.size) (HL (.slice va n vc) x.hs) T by rw [hT]; exact (AH3.out.lowB BW.out HR.out.1.2).set _ (by have := HR.out.2.1; omega))
  have AW5 := hidL (show At (sLo (.slice ua k uc) w.heap.size) (sHi (.slice ua k uc) w.heap.size) (WL (.slice ua k uc) x.ws) T by rw [hT]; exact AW.out.set _ (by have := RW2.out.2.1; omega))
  have sT : T.heap.size = w3.heap.size := by rw [hT]; simp
  clear hT FB4 FZ3 FB3 AH3 AW OW WY OY
  have LB := hidL FB5.out.val.1
  refine wp_copyOut (b1 := w.heap.size + 1) (b2 := w.heap.size) (vs := [.int .i64 x.id, .string x.key, .bool x.bk, .bool x.ot, .int .i64 x.du, .bool x.dm, .string x.m, .string x.h, .string x.p, .slice va n vc, .slice ua k uc]) (zs := [.int .i64 0, .string ⟨#[]⟩, .bool false, .bool false, .int .i64 0, .bool false, .string ⟨#[]⟩, .string ⟨#[]⟩, .string ⟨#[]⟩, .slice none 0 0, .slice none 0 0]) Tryz.underlying36 flI_size rfl (fun _ => rfl) (fun _ => rfl) FB5.out.val.1 FZ5.out.val.1 FZ5.out.val.2 rfl rfl ?_
  obtain ⟨VF, hVF⟩ : ∃ V, V = putAll T w.heap.size 0 [.int .i64 x.id, .string x.key, .bool x.bk, .bool x.ot, .int .i64 x.du, .bool x.dm, .string x.m, .string x.h, .string x.p, .slice va n vc, .slice ua k uc] := ⟨_, rfl⟩
  rw [← hVF]
  have R : At w.heap.size (w.heap.size + 1) (Bx w.heap.size [.int .i64 x.id, .string x.key, .bool x.bk, .bool x.ot, .int .i64 x.du, .bool x.dm, .string x.m, .string x.h, .string x.p, .slice va n vc, .slice ua k uc]) VF := by rw [hVF]; exact Bx.putAll FZ5.out [.int .i64 x.id, .string x.key, .bool x.bk, .bool x.ot, .int .i64 x.du, .bool x.dm, .string x.m, .string x.h, .string x.p, .slice va n vc, .slice ua k uc] rfl
  have KF : Below w.heap.size w VF := by rw [hVF]; exact below_putAll (Nat.le_refl _) [.int .i64 x.id, .string x.key, .bool x.bk, .bool x.ot, .int .i64 x.du, .bool x.dm, .string x.m, .string x.h, .string x.p, .slice va n vc, .slice ua k uc] 0 KT.out
  have E1 : At (sLo (.slice va n vc) w.heap.size) (sHi (.slice va n vc) w.heap.size) (HL (.slice va n vc) x.hs) VF := by rw [hVF]; exact At.putAll (by have := HR.out.2.1; omega) [.int .i64 x.id, .string x.key, .bool x.bk, .bool x.ot, .int .i64 x.du, .bool x.dm, .string x.m, .string x.h, .string x.p, .slice va n vc, .slice ua k uc] 0 AH5.out
  have E2 : At (sLo (.slice ua k uc) w.heap.size) (sHi (.slice ua k uc) w.heap.size) (WL (.slice ua k uc) x.ws) VF := by rw [hVF]; exact At.putAll (by have := RW2.out.2.1; omega) [.int .i64 x.id, .string x.key, .bool x.bk, .bool x.ot, .int .i64 x.du, .bool x.dm, .string x.m, .string x.h, .string x.p, .slice va n vc, .slice ua k uc] 0 AW5.out
  have hr := HR.out
  have hr2 := RW2.out
  have eN := E1.val.in rfl
  have eK := E2.val.in
  have z1 := E1.le
  have z2 := E2.le
  clear hVF FB5 FZ5 KT AH5 AW5 LB HR RW2 KY BW
  go_wp2_with fail
  have rz0 := R.val.1 0 _ rfl
  have rz1 := R.val.1 1 _ rfl
  have rz2 := R.val.1 2 _ rfl
  have rz3 := R.val.1 3 _ rfl
  have rz4 := R.val.1 4 _ rfl
  have rz5 := R.val.1 5 _ rfl
  have rz6 := R.val.1 6 _ rfl
  have rz7 := R.val.1 7 _ rfl
  have rz8 := R.val.1 8 _ rfl
  have rz9 := R.val.1 9 _ rfl
  have rz10 := R.val.1 10 _ rfl
  refine bodyPost_ret (v := .agg #[.int .i64 x.id, .string x.key, .bool x.bk, .bool x.ot, .int .i64 x.du, .bool x.dm, .string x.m, .string x.h, .string x.p, .slice va n vc, .slice ua k uc]) ?_ rfl ⟨⟨va, vc, ua, uc, rfl, Nat.le_refl _, FR.dep _ _ _ _ _ _ _ _ _ _, ⟨eN.1, eK.1⟩, _, _, _, _, ⟨hr.1.1, s_le _ _, z1⟩, ⟨hr2.1.1, s_le _ _, z2⟩, hr2.2.2, E1, E2⟩, KF⟩
  simp [results, Tryz.results41, go_sem, rz0, rz1, rz2, rz3, rz4, rz5, rz6, rz7, rz8, rz9, rz10]
end Go.Proofs.YtkchefbhpbpanaaGreatDoor
/-
  A map whose keys are signs: what it holds, as one predicate.
-/
namespace Go.Proofs.YtkchefbhpbpanaaGreatDoor
open Go.ChangeShapes Go.WideShapes Go.ChangeAt Go.RowKit Go.Maps
/-- What something in a list of flights is known by. -/
structure Sg where
  kd : Int
  nm : Int
  tx : ByteArray
def sgEq (a b : Sg) : Bool := decide (a.kd = b.kd) && decide (a.nm = b.nm) && decide (a.tx = b.tx)
theorem sgEq_iff {a b : Sg} : sgEq a b = true ↔ a = b := by
  obtain ⟨a1, a2, a3⟩ := a
  obtain ⟨b1, b2, b3⟩ := b
  simp [sgEq, and_assoc]
def sgV (x : Sg) : Value := .agg #[.int .i64 x.kd, .int .i64 x.nm, .string x.tx]
structure SgOk (x : Sg) : Prop where
  kd : (Lit.int .i64 x.kd).wf = true
  nm : (Lit.int .i64 x.nm).wf = true
  tx : x.tx.size ≤ maxLen
def keyS (x : Sg) : Lit := .string (keyBytes [.int .i64 x.kd, .int .i64 x.nm, .string x.tx.data.toList])
theorem keyedS : Keyed Tryz.prog 116 := Keyed.of_law (deep_law_laid (m := 3) (by kernel_rfl) (by omega) (of_decide_eq_true (by kernel_rfl)) (by kernel_rfl) (by kernel_rfl))
theorem keyOf_three {P : Program} {k ti tj ts : TypeId} {f0 f1 f2 : Field} (u0 : P.underlying k = some (.struct #[f0, f1, f2])) (n0 : (f0.name != "_") = true) (n1 : (f1.name != "_") = true) (n2 : (f2.name != "_") = true) (t0 : f0.type = ti) (t1 : f1.type = tj) (t2 : f2.type = ts) (o0 : f0.offset = 0) (o1 : f1.offset = 1) (o2 : f2.offset = 2)
    (c0 : P.cellsOf k = 3) (c1 : P.cellsOf ti = 1) (c2 : P.cellsOf tj = 1) (c3 : P.cellsOf ts = 1) (u1 : P.underlying ti = some (.int .i64)) (u2 : P.underlying tj = some (.int .i64)) (u3 : P.underlying ts = some .string) (hk : P.keyType k = true) {m : Nat} (hm : P.types.size = m + 1) {a b : Int} {s : ByteArray} (h1 : (Lit.int .i64 a).wf = true) (h2 : (Lit.int .i64 b).wf = true) (h3 : s.size ≤ maxLen) :
    keyOf P k (.agg #[.int .i64 a, .int .i64 b, .string s]) = some (.string (keyBytes [.int .i64 a, .int .i64 b, .string s.data.toList])) := by
  simp [keyOf, u0, hk, Value.formed, c0, hm, Program.keyLits, n0, n1, n2, t0, t1, t2, o0, o1, o2, u1, u2, u3, c1, c2, c3, Value.cells, h1, h2, h3]
theorem keyS_mk {x : Sg} (h : SgOk x) : keyOf Tryz.prog 116 (sgV x) = some (keyS x) :=
  keyOf_three Tryz.underlying116 rfl rfl rfl rfl rfl rfl rfl rfl rfl (by kernel_rfl) (by kernel_rfl) (by kernel_rfl) (by kernel_rfl) Tryz.underlying3 Tryz.underlying2 Tryz.underlying9 (by kernel_rfl) (m := Tryz.prog.types.size - 1) (by kernel_rfl) h.kd h.nm h.tx
theorem keyS_inj {x y : Sg} (hx : SgOk x) (hy : SgOk y) (h : keyS x = keyS y) : x = y := by
  have e := keyedS.inj (keyS_mk hx) (by rw [h]; exact keyS_mk hy)
  obtain ⟨a, b, c⟩ := x
  obtain ⟨d, e', f⟩ := y
  simpa [sgV] using e
theorem keyS_ne {x y : Sg} (hx : SgOk x) (hy : SgOk y) (h : x ≠ y) : keyS x ≠ keyS y := fun e => h (keyS_inj hx hy e)
theorem isKeyS (x : Sg) : WideAt.IsKeyLit (keyS x) := trivial
theorem hzeroS (w : World) : (zeroValue 3).run Tryz.prog w = .ok (.int .i64 0) w := by kernel_rfl
def SgsMap (w : World) (B n : Nat) (p : Sg → Option Nat) : Prop :=
  ∃ D : DataW Unit, w.ownsMap Tryz.prog 116 (plainElem Tryz.prog 3) B n D ∧ ∀ x : Sg, SgOk x → Maps.has D (keyS x) = (p x).isSome ∧ ∀ i, p x = some i → D.atKey (keyS x) (.lit (.int .i64 0)) = .lit (.int .i64 (i : Int))
theorem SgsMap.lt {w : World} {B n : Nat} {p : Sg → Option Nat} (h : SgsMap w B n p) : B < w.heap.size := by
  obtain ⟨D, h, _⟩ := h
  exact h.lt
theorem SgsMap.below {w w' : World} {B n : Nat} {p : Sg → Option Nat} (h : SgsMap w B n p) (hb : Below w.heap.size w w') : SgsMap w' B n p := by
  have hl := h.lt
  obtain ⟨D, ⟨es, clock, hh, r⟩, h2⟩ := h
  exact ⟨D, ⟨es, clock, by rw [hb.block B hl]; exact hh, r⟩, h2⟩
theorem SgsMap.setCell {w : World} {B n : Nat} {p : Sg → Option Nat} (h : SgsMap w B n p) {a : Addr} (ha : B ≠ a.block) (u : Value) : SgsMap (w.setCell a u) B n p := by
  obtain ⟨D, h, h2⟩ := h
  exact ⟨D, h.setCell ha u, h2⟩
theorem SgsMap.made (w : World) : SgsMap (w.alloc (.map #[] 0)) w.heap.size 0 (fun _ => none) :=
  ⟨.map [], World.ownsMap_made w _ _ _, fun x _ => ⟨rfl, fun i h => by cases h⟩⟩
theorem SgsMap.of {w : World} {B n : Nat} {p q : Sg → Option Nat} (h : SgsMap w B n p) (e : ∀ x, p x = q x) : SgsMap w B n q := by
  obtain rfl : p = q := funext e
  exact h
theorem turnedS {w w' : World} {B base : Nat} (h : w.mapTurned w' B) (hb : base ≤ B) : Below base w w' :=
  (Below.refl base w).grown h.grown (by
    obtain ⟨es, clock, es', clock', hh, rfl⟩ := h
    have := (Array.getElem?_eq_some_iff.1 hh).1
    omega) (fun q hq => by cases hq; exact hb)
section
variable {ops : Array Oper} {rest : List Oper} {o : Oper} {a : Act} {Q : Exit → Act → World → Prop}
theorem wpList_lookS_none (w : World) (hg : o.guard = none) (m x : Operand) (hop : o.op = Op.lookup 139 m x true) (B n : Nat) (p : Sg → Option Nat)
    (hm : a.eval m = .map (some B)) (hown : SgsMap w B n p) (key : Sg) (hx : a.eval x = sgV key) (hk : SgOk key) (hp : p key = none)
    (hK : wpList Tryz.prog ops Q rest (a.put o.dst (.tuple #[.int .i64 0, .bool false])) w) : wpList Tryz.prog ops Q (o :: rest) a w := by
  obtain ⟨D, hD, hat⟩ := hown
  have h1 : Maps.has D (keyS key) = false := by rw [(hat key hk).1, hp]; rfl
  refine wpList_lookup_own_ok_int w hg m x 139 hop 116 3 .i64 keyedS Tryz.underlying139 Tryz.underlying3 (hzeroS w) B n D hm hD _ (keyS key) hx (keyS_mk hk) ?_
  intro c hc _
  rw [atKey_of_not_has h1] at hc
  obtain rfl : c = 0 := by simpa using hc.symm
  rw [h1]
  exact hK
theorem wpList_lookS_some (w : World) (hg : o.guard = none) (m x : Operand) (hop : o.op = Op.lookup 139 m x true) (B n : Nat) (p : Sg → Option Nat)
    (hm : a.eval m = .map (some B)) (hown : SgsMap w B n p) (key : Sg) (hx : a.eval x = sgV key) (hk : SgOk key) (i : Nat) (hp : p key = some i)
    (hK : wpList Tryz.prog ops Q rest (a.put o.dst (.tuple #[.int .i64 (i : Int), .bool true])) w) : wpList Tryz.prog ops Q (o :: rest) a w := by
  obtain ⟨D, hD, hat⟩ := hown
  have h1 : Maps.has D (keyS key) = true := by rw [(hat key hk).1, hp]; rfl
  refine wpList_lookup_own_ok_int w hg m x 139 hop 116 3 .i64 keyedS Tryz.underlying139 Tryz.underlying3 (hzeroS w) B n D hm hD _ (keyS key) hx (keyS_mk hk) ?_
  intro c hc _
  rw [(hat key hk).2 i hp] at hc
  obtain rfl : c = (i : Int) := by simpa using hc.symm
  rw [h1]
  exact hK
theorem wpList_putS (w : World) (hg : o.guard = none) (m x v : Operand) (hop : o.op = Op.mapUpdate 139 m x v) (B n : Nat) (p : Sg → Option Nat)
    (hm : a.eval m = .map (some B)) (hown : SgsMap w B n p) (hn : n ≤ 1048576) (key : Sg) (hx : a.eval x = sgV key) (hk : SgOk key) (i : Nat) (hi : i ≤ 1048576) (hv : a.eval v = .int .i64 (i : Int)) (base : Nat) (hbase : base ≤ B)
    (hK : ∀ w', SgsMap w' B (n + 1) (fun y => if sgEq y key = true then some i else p y) → Below base w w' → w.grownBy w' (some B) → wpList Tryz.prog ops Q rest (a.put o.dst undef) w') : wpList Tryz.prog ops Q (o :: rest) a w := by
  obtain ⟨D, hD, hat⟩ := hown
  refine wpList_mapUpdate_in w hg m x v 139 hop 116 3 keyedS Tryz.underlying139 _ B n D hm hD (by unfold maxLen; omega) _ _ (keyS key) hx hv (keyS_mk hk) (.lit (.int .i64 (i : Int))) [] (plainElem_int Tryz.underlying3 (WalkArith.wf_i64 (by omega))) ?_
  intro w' hD' ht
  refine hK w' ⟨_, hD', fun y hy => ?_⟩ (turnedS ht hbase) ht.grown
  by_cases e : y = key
  · subst e
    simp only [sgEq_iff.2 rfl, if_true]
    refine ⟨has_put_same hD.isMap (isKeyS _) _, fun j hj => ?_⟩
    obtain rfl := Option.some.inj hj
    exact atKey_put_same hD.isMap (isKeyS _) _ _
  · simp only [if_neg (fun z => e (sgEq_iff.1 z))]
    rw [has_put_other (keyS_ne hy hk e), atKey_put_other (keyS_ne hy hk e)]
    exact hat y hy
end
end Go.Proofs.YtkchefbhpbpanaaGreatDoor
