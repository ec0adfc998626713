/-
  Texts of one claim, one behind the other.
-/
import Derived.Below
import Derived.BigQuiet
import Derived.Deep.AppendLies
import Derived.Deep.CutBlock
import Derived.Deep.CutRange
import Derived.Deep.RegionWith
import Derived.Deep.Slices
import Derived.Deep.Strs
import Derived.DeepKeys4
import Derived.Laws.IdiomStrings
import Derived.Laws.OwnMore
import Derived.Laws.RangeAny
import Derived.Laws.StructEq
import Derived.Lay
import Derived.Lib.Join
import Derived.Lib.QuietBelow
import Derived.Lib.SlTrimSet
import Derived.Maps.Own
import Derived.Maps.OwnOps
import Derived.Maps.OwnSet
import Derived.OpenShut
import Derived.ProofKit
import Derived.Shelf.SlicesE.Kit
import Derived.Test.YtgejegmilkmiiaaGreatDoorProg
import Derived.WalkKit
import Derived.WalkLawsBesides
import Derived.WalkSpells
/-
  Small lemmas that the walks share.
-/
namespace Go.Proofs.YtgejegmilkmiiaaGreatDoor
open Go.ChangeShapes Go.WideShapes Go.ChangeAt Go.RowKit
theorem bcell {W w1 : World} (hb : Below W.heap.size W w1) : (∀ b o, b < W.heap.size → w1.cell? ⟨b, o, none⟩ = W.cell? ⟨b, o, none⟩) ∧ (∀ b o, b < W.heap.size → w1.frozen? ⟨b, o, none⟩ = W.frozen? ⟨b, o, none⟩) :=
  ⟨fun b o h => hb.cell (p := ⟨b, o, none⟩) h, fun b o h => hb.frozen (p := ⟨b, o, none⟩) h⟩
theorem two_set {w : World} {B : Nat} {u0 u1 v0 v1 : Value} (p0 : w.cell? ⟨B, 0, none⟩ = some u0) (p1 : w.cell? ⟨B, 1, none⟩ = some u1) :
    ((w.setCell ⟨B, 0, none⟩ v0).setCell ⟨B, 1, none⟩ v1).cell? ⟨B, 0, none⟩ = some v0 ∧ ((w.setCell ⟨B, 0, none⟩ v0).setCell ⟨B, 1, none⟩ v1).cell? ⟨B, 1, none⟩ = some v1 := by
  constructor
  · rw [World.cell?_setCell_other _ _ _ _ (by intro h; have := congrArg Addr.off h; simp at this), World.cell?_setCell_same _ _ _ p0]
  · refine World.cell?_setCell_same _ _ _ (u := u1) ?_
    rw [World.cell?_setCell_other _ _ _ _ (by intro h; have := congrArg Addr.off h; simp at this), p1]
theorem ret_int {k : IntKind} {a b : Int} (h : a = b) : Ending.returned (.int k a) = .returned (.int k b) := by rw [h]
theorem ret_bool {a b : Bool} (h : a = b) : Ending.returned (.bool a) = .returned (.bool b) := by rw [h]
theorem ret_str {a b : ByteArray} (h : a = b) : Ending.returned (.string a) = .returned (.string b) := by rw [h]
theorem take_snoc (s : ByteArray) (k : Nat) (h : k < s.size) : s.data.toList.take (k + 1) = s.data.toList.take k ++ [s[k]] := by
  rw [List.take_succ_eq_append_getElem (by simpa using h)]; rfl
end Go.Proofs.YtgejegmilkmiiaaGreatDoor
/-
  Head lines in memory; the laws' own helpers over them.
-/
namespace Go.Proofs.YtgejegmilkmiiaaGreatDoor
open Go.ChangeShapes Go.WideShapes Go.ChangeAt Go.RowKit
/-- A head line: its name and its value. -/
structure Hdr where
  name : ByteArray
  value : ByteArray
/-- The lines l lie in block b from off on, two cells each. -/
def HeadsAt (w : World) (b off : Nat) (l : List Hdr) : Prop :=
  ∀ (i : Nat) r, l[i]? = some r → w.cell? ⟨b, off + i * 2, none⟩ = some (.string r.name) ∧ w.cell? ⟨b, off + i * 2 + 1, none⟩ = some (.string r.value)
def hdrV (r : Hdr) : Value := .agg #[.string r.name, .string r.value]
def szH (left : Int) (r : Hdr) : Int := if left - (r.name.size : Int) < 0 then -1 else if left - (r.name.size : Int) - (r.value.size : Int) < 0 then -1 else left - (r.name.size : Int) - (r.value.size : Int)
set_option maxHeartbeats 400000 in
theorem szHeader_any (r : Hdr) (left : Int) (w : World) (h0 : 0 ≤ left) (h1 : left ≤ 1048576) (z1 : r.name.size ≤ maxLen) (z2 : r.value.size ≤ maxLen) :
    Calls Tryz.prog 128 #[.agg #[.string r.name, .string r.value], .int .i64 left] w fun e w' => e = .returned (.int .i64 (szH left r)) ∧ Below w.heap.size w w' := by
  unfold maxLen at z1 z2
  obtain ⟨n, v⟩ := r
  simp only at z1 z2 ⊢
  by_cases c1 : left - (n.size : Int) < 0
  · have HE : Hid (szH left ⟨n, v⟩ = -1) := by show _ = _; simp [szH, c1]
    go_enter Tryz.func128, Tryz.ntmps128
    go_wp2
    go_ret
    exact ⟨ret_int HE.out.symm, (Below.refl _ _).alloc (Nat.le_refl _) _⟩
  · by_cases c2 : left - (n.size : Int) - (v.size : Int) < 0
    · have HE : Hid (szH left ⟨n, v⟩ = -1) := by show _ = _; simp [szH, c1, c2]
      go_enter Tryz.func128, Tryz.ntmps128
      go_wp2
      go_ret
      exact ⟨ret_int HE.out.symm, (Below.refl _ _).alloc (Nat.le_refl _) _⟩
    · have HE : Hid (szH left ⟨n, v⟩ = left - (n.size : Int) - (v.size : Int)) := by show _ = _; simp [szH, c1, c2]
      go_enter Tryz.func128, Tryz.ntmps128
      go_wp2
      go_ret
      exact ⟨ret_int HE.out.symm, (Below.refl _ _).alloc (Nat.le_refl _) _⟩
set_option maxHeartbeats 400000 in
theorem toHeader_any (r : Hdr) (w : World) :
    Calls Tryz.prog 129 #[.agg #[.string r.name, .string r.value]] w fun e w' => e = .returned (.agg #[.string r.name, .string r.value]) ∧ Below w.heap.size w w' := by
  obtain ⟨n, v⟩ := r
  simp only
  go_enter Tryz.func129, Tryz.ntmps129
  go_wp2
  exact bodyPost_ret (v := .agg #[.string n, .string v]) (by simp [results, Tryz.results129, go_sem]) rfl ⟨rfl, (((Below.refl _ _).alloc (Nat.le_refl _) _).alloc (by simp) _).alloc (by simp; omega) _⟩
set_option maxHeartbeats 400000 in
theorem eqHeader_same (r : Hdr) (w : World) :
    Calls Tryz.prog 130 #[.agg #[.string r.name, .string r.value], .agg #[.string r.name, .string r.value]] w fun e w' => e = .returned (.bool true) ∧ Below w.heap.size w w' := by
  obtain ⟨n, v⟩ := r
  simp only
  go_enter Tryz.func130, Tryz.ntmps130
  go_wp2
  go_ret
  exact ⟨rfl, ((Below.refl _ _).alloc (Nat.le_refl _) _).alloc (by simp) _⟩
/-- How much room is left behind the items; -1: none. -/
def szHs (left : Int) : List Hdr → Int
  | [] => left
  | r :: l => if szH left r < 0 then -1 else szHs (szH left r) l
def szHL (left : Int) (l : List Hdr) : Int := if left - (l.length : Int) < 0 then -1 else szHs (left - (l.length : Int)) l
def SmallHdrs (l : List Hdr) : Prop := ∀ (i : Nat) r, l[i]? = some r → r.name.size ≤ maxLen ∧ r.value.size ≤ maxLen
theorem HeadsAt.keep {w w' : World} {b off : Nat} {l : List Hdr} (h : HeadsAt w b off l) (hb : Below w.heap.size w w') : HeadsAt w' b off l := by
  intro i r hr
  obtain ⟨a1, a3⟩ := h i r hr
  exact ⟨by rw [hb.cell (block_lt_of_cell a1)]; exact a1, by rw [hb.cell (block_lt_of_cell a3)]; exact a3⟩
theorem szH_le (left : Int) (r : Hdr) : szH left r ≤ left ∨ szH left r = -1 := by
  unfold szH
  split
  · exact .inr rfl
  · split
    · exact .inr rfl
    · left; omega
theorem drop_hdr (l : List Hdr) (k : Nat) (r : Hdr) (h : l[k]? = some r) : l.drop k = r :: l.drop (k + 1) := by
  obtain ⟨hk, rfl⟩ := List.getElem?_eq_some_iff.1 h
  exact List.drop_eq_getElem_cons hk
set_option maxHeartbeats 2000000 in
theorem szHeaderS_any (w : World) (a : Option Addr) (cap : Nat) (l : List Hdr) (hl : l.length ≤ maxLen) (hi : l = [] ∨ ∃ b off, a = some ⟨b, off, none⟩ ∧ HeadsAt w b off l) (hz : SmallHdrs l) (left : Int) (h0 : 0 ≤ left) (h1 : left ≤ 1048576) :
    Calls Tryz.prog 108 #[.slice a l.length cap, .int .i64 left] w fun e w' => e = .returned (.int .i64 (szHL left l)) ∧ Below w.heap.size w w' := by
  unfold maxLen at hl
  have HI : Hid (l = [] ∨ ∃ b off, a = some ⟨b, off, none⟩ ∧ HeadsAt w b off l) := hi
  have HZ : Hid (SmallHdrs l) := hz
  clear hi hz
  generalize hn : l.length = n at *
  have HN : Hid (l.length = n) := hn
  by_cases c0 : left - (n : Int) < 0
  · have HE : Hid (szHL left l = -1) := by show _ = _; unfold szHL; rw [hn, if_pos c0]
    clear hn
    go_enter Tryz.func108, Tryz.ntmps108
    go_wp2
    go_ret
    exact ⟨ret_int HE.out.symm, Below.refl _ _⟩
  have HE : Hid (szHL left l = szHs (left - (n : Int)) l) := by show _ = _; unfold szHL; rw [hn, if_neg c0]
  have c0' : 0 ≤ left - (n : Int) := by omega
  clear hn
  go_enter Tryz.func108, Tryz.ntmps108
  go_wp2_with fail
  go_loopw [1, 5] (fun x i wr => ∃ (k : Nat) (c : Int), k ≤ n ∧ i = .int .i64 k ∧ x = .int .i64 c ∧ 0 ≤ c ∧ c ≤ 1048576 ∧ szHL left l = szHs c (l.drop k) ∧ Below w.heap.size w wr) (fun _ i _ => n - (intOf i).toNat)
  case atStart => exact ⟨0, left - (n : Int), Nat.zero_le _, rfl, rfl, c0', by omega, HE.out, Below.refl _ _⟩
  case round =>
    obtain ⟨k, c, hk, rfl, rfl, c2, c3, hs, hb⟩ := hrel
    have HS : Hid (szHL left l = szHs c (l.drop k)) := hs
    clear hs HE
    by_cases hlt : k < n
    · obtain ⟨r, hr⟩ : ∃ r, l[k]? = some r := ⟨l[k]'(by have := HN.out; omega), List.getElem?_eq_getElem _⟩
      rcases HI.out with h | ⟨b, off, rfl, hat⟩
      · subst h; simp at hr
      obtain ⟨p1, p3⟩ := (hat.keep hb) k r hr
      obtain ⟨z1, z2⟩ := HZ.out k r hr
      have HS2 : Hid (szHL left l = if szH c r < 0 then -1 else szHs (szH c r) (l.drop (k + 1))) := by
        show _ = _
        rw [HS.out, drop_hdr l k r hr, szHs]
      have HC : Hid (∀ w, Calls Tryz.prog 128 #[.agg #[.string r.name, .string r.value], .int .i64 c] w fun e w' => e = .returned (.int .i64 (szH c r)) ∧ Below w.heap.size w w') := fun w => szHeader_any r c w c2 c3 z1 z2
      have hle := szH_le c r
      have g : (k : Int) < n := by omega
      clear HS hr hat z1 z2 HI
      generalize szH c r = d at *
      generalize r.name = rn at *
      generalize r.value = rv at *
      go_wp2_with fail
      refine (HC.out _).mono ?_
      rintro e w2 ⟨rfl, hb2⟩
      have hbb : Below w.heap.size w w2 := hb.trans (hb2.mono hb.size)
      clear hb2 hb p1 p3 HC
      by_cases hd : d < 0
      · have HF : Hid (szHL left l = -1) := by show _ = _; rw [HS2.out, if_pos hd]
        clear HS2
        go_wp2_with fail
        go_ret
        exact ⟨ret_int HF.out.symm, hbb⟩
      · have HF : Hid (szHL left l = szHs d (l.drop (k + 1))) := by show _ = _; rw [HS2.out, if_neg hd]
        clear HS2
        go_wp2_with fail
        go_roundw
        case rel => exact ⟨k + 1, d, by omega, by go_num, rfl, by omega, by omega, HF.out, hbb⟩
        case measure => simp [intOf]; omega
    · have HF : Hid (szHL left l = c) := by
        show _ = _
        rw [HS.out, List.drop_of_length_le (by have := HN.out; omega), szHs]
      clear HS
      go_wp2_with fail
      go_ret
      exact ⟨ret_int HF.out.symm, hb⟩
end Go.Proofs.YtgejegmilkmiiaaGreatDoor
/-
  The laws' copy of a list of items, and their comparing of two.
-/
namespace Go.Proofs.YtgejegmilkmiiaaGreatDoor
open Go.ChangeShapes Go.WideShapes Go.ChangeAt Go.RowKit Go.Sort
/-- m cells from the head of block G on are there and may be written. -/
def HRoom (w : World) (G m : Nat) : Prop := ∀ j, j < m → (∃ u, w.cell? ⟨G, j, none⟩ = some u) ∧ w.frozen? ⟨G, j, none⟩ = false
theorem HRoom.keep {w w' : World} {G m : Nat} (h : HRoom w G m) (hb : Below w.heap.size w w') : HRoom w' G m := by
  intro j hj
  obtain ⟨⟨u, hu⟩, hf⟩ := h j hj
  exact ⟨⟨u, by rw [hb.cell (block_lt_of_cell hu)]; exact hu⟩, by rw [hb.frozen (block_lt_of_cell hu)]; exact hf⟩
theorem HRoom.set {w : World} {G m : Nat} (h : HRoom w G m) (a : Addr) (v : Value) : HRoom (w.setCell a v) G m := by
  intro j hj
  obtain ⟨⟨u, hu⟩, hf⟩ := h j hj
  refine ⟨?_, by rw [World.frozen?_setCell]; exact hf⟩
  by_cases e : a = ⟨G, j, none⟩
  · exact ⟨v, by subst e; exact World.cell?_setCell_same _ _ _ hu⟩
  · exact ⟨u, by rw [World.cell?_setCell_other _ _ _ _ e]; exact hu⟩
def put2 (w : World) (G k : Nat) (r : Hdr) : World := (w.setCell ⟨G, k * 2, none⟩ (.string r.name)).setCell ⟨G, k * 2 + 1, none⟩ (.string r.value)
theorem hoff_ne {G i j : Nat} (h : i ≠ j) : (⟨G, i, none⟩ : Addr) ≠ ⟨G, j, none⟩ := fun e => h (congrArg Addr.off e)
theorem put2_other (w : World) (G k : Nat) (r : Hdr) (j : Nat) (h0 : k * 2 ≠ j) (h1 : k * 2 + 1 ≠ j) : (put2 w G k r).cell? ⟨G, j, none⟩ = w.cell? ⟨G, j, none⟩ := by
  unfold put2
  rw [World.cell?_setCell_other _ _ _ _ (hoff_ne h1), World.cell?_setCell_other _ _ _ _ (hoff_ne h0)]
theorem HRoom.put {w : World} {G m : Nat} (h : HRoom w G m) (k : Nat) (r : Hdr) : HRoom (put2 w G k r) G m := (h.set _ _).set _ _
theorem HeadsAt.put {w : World} {G n : Nat} {l : List Hdr} {k : Nat} {r : Hdr} (h : HeadsAt w G 0 (l.take k)) (hr : l[k]? = some r) (hm : HRoom w G (n * 2)) (hk : k < n) : HeadsAt (put2 w G k r) G 0 (l.take (k + 1)) := by
  intro i q hq
  have hi : i < k + 1 := by
    have := (List.getElem?_eq_some_iff.1 hq).1
    simp at this; omega
  rw [List.getElem?_take_of_lt hi] at hq
  simp only [Nat.zero_add]
  by_cases e : i = k
  · subst e
    rw [hr] at hq
    obtain rfl := Option.some.inj hq
    obtain ⟨⟨u0, g0⟩, _⟩ := hm (i * 2) (by omega)
    obtain ⟨⟨u1, g1⟩, _⟩ := (hm.set ⟨G, i * 2, none⟩ (.string r.name)) (i * 2 + 1) (by omega)
    unfold put2
    refine ⟨?_, World.cell?_setCell_same _ _ _ g1⟩
    rw [World.cell?_setCell_other _ _ _ _ (hoff_ne (by omega))]
    exact World.cell?_setCell_same _ _ _ g0
  · have hq2 : (l.take k)[i]? = some q := by rw [List.getElem?_take_of_lt (by omega)]; exact hq
    obtain ⟨a1, a3⟩ := h i q hq2
    simp only [Nat.zero_add] at a1 a3
    exact ⟨by rw [put2_other _ _ _ _ _ (by omega) (by omega)]; exact a1, by rw [put2_other _ _ _ _ _ (by omega) (by omega)]; exact a3⟩
theorem infoHeader : (Tryz.prog.info? 158).map (fun i => (i.zero, i.size, i.bytes)) = some (some (.agg #[.string ⟨#[]⟩, .string ⟨#[]⟩]), 2, 32) := by kernel_rfl
set_option maxHeartbeats 2000000 in
theorem toHeaderS_any (w : World) (a : Option Addr) (cap : Nat) (l : List Hdr) (hl : l.length ≤ 1048576) (hi : l = [] ∨ ∃ b off, a = some ⟨b, off, none⟩ ∧ HeadsAt w b off l) :
    Calls Tryz.prog 109 #[.slice a l.length cap] w fun e w' => e = .returned (.slice (some ⟨w.heap.size, 0, none⟩) l.length l.length) ∧ HeadsAt w' w.heap.size 0 l ∧ Below w.heap.size w w' := by
  have HI : Hid (l = [] ∨ ∃ b off, a = some ⟨b, off, none⟩ ∧ HeadsAt w b off l) := hi
  obtain ⟨i0, hi0, hz0, hz1, hz2⟩ := info_parts infoHeader
  clear hi
  generalize hn : l.length = n at *
  have HN : Hid (l.length = n) := hn
  clear hn
  go_enter Tryz.func109, Tryz.ntmps109
  go_wp2_with (at_make; refine wpList_make_full w rfl _ _ 24 rfl w.heap.size 158 i0 _ 2 Tryz.underlying24 hi0 hz0 hz1 _ _ _ _ n rfl rfl rfl rfl (by rw [hz2]; omega) (by unfold maxLen; omega) (Nat.le_refl _) ?_; intro w1 hown hgrow)
  have HR1 : Hid (HRoom w1 w.heap.size (n * 2) ∧ Below w.heap.size w w1) := by
    refine ⟨fun j hj => ⟨?_, hown.frozenAt j⟩, (Below.refl _ _).grown hgrow (Nat.le_refl _) (fun q hq => by cases hq)⟩
    have h1 := hown.cellAt j hj
    have h2 : j < (madeCells (Value.agg #[.string ⟨#[]⟩, .string ⟨#[]⟩]).cells (n * 2)).toList.length := by have := hown.1; omega
    exact ⟨_, h1.trans (List.getElem?_eq_getElem h2)⟩
  clear hown hgrow
  go_loopw [4] (fun i wr => ∃ k : Nat, k ≤ n ∧ i = .int .i64 k ∧ HeadsAt wr w.heap.size 0 (l.take k) ∧ HRoom wr w.heap.size (n * 2) ∧ Below w.heap.size w wr) (fun i _ => n - (intOf i).toNat)
  case atStart => exact ⟨0, Nat.zero_le _, rfl, fun i r hr => by simp at hr, HR1.out.1, HR1.out.2⟩
  case round =>
    obtain ⟨k, hk, rfl, hat, hroom, hb⟩ := hrel
    clear HR1
    by_cases hlt : k < n
    · obtain ⟨r, hr⟩ : ∃ r, l[k]? = some r := ⟨l[k]'(by have := HN.out; omega), List.getElem?_eq_getElem _⟩
      rcases HI.out with h | ⟨b, off, rfl, hsrc⟩
      · subst h; simp at hr
      have hblt : b < w.heap.size := block_lt_of_cell (hsrc k r hr).1
      have hkeep := (hsrc.keep (w' := w) (Below.refl _ _)) k r hr
      have p1 : wr.cell? ⟨b, off + k * 2, none⟩ = some (.string r.name) := by rw [hb.cell (p := ⟨b, off + k * 2, none⟩) hblt]; exact hkeep.1
      have p3 : wr.cell? ⟨b, off + k * 2 + 1, none⟩ = some (.string r.value) := by rw [hb.cell (p := ⟨b, off + k * 2 + 1, none⟩) hblt]; exact hkeep.2
      have HA : Hid (HeadsAt wr w.heap.size 0 (l.take k)) := hat
      have HM : Hid (HRoom wr w.heap.size (n * 2)) := hroom
      have HR : Hid (l[k]? = some r) := hr
      have g : (k : Int) < n := by omega
      clear hat hroom hr hsrc hkeep HI
      go_wp2_with fail
      refine (toHeader_any r _).mono ?_
      rintro e w2 ⟨rfl, hb2⟩
      have HA2 : Hid (HeadsAt w2 w.heap.size 0 (l.take k)) := HA.out.keep hb2
      have HM2 : Hid (HRoom w2 w.heap.size (n * 2)) := HM.out.keep hb2
      have hbb : Below w.heap.size w w2 := hb.trans (hb2.mono hb.size)
      obtain ⟨⟨u0, g0⟩, f0⟩ := HM2.out (k * 2) (by omega)
      obtain ⟨⟨u1, g1⟩, f1⟩ := HM2.out (k * 2 + 1) (by omega)
      have HP : Hid (HeadsAt (put2 w2 w.heap.size k r) w.heap.size 0 (l.take (k + 1)) ∧ HRoom (put2 w2 w.heap.size k r) w.heap.size (n * 2)) := ⟨HA2.out.put HR.out HM2.out hlt, HM2.out.put k r⟩
      clear HA HM HA2 HM2 hb2 hb p1 p3
      obtain ⟨rn, rv⟩ := r
      go_wp2_with fail
      go_roundw
      case rel => exact ⟨k + 1, by omega, by go_num, HP.out.1, HP.out.2, (hbb.setCell (Nat.le_refl _) _).setCell (Nat.le_refl _) _⟩
      case measure => simp [intOf]; omega
    · have HF : Hid (HeadsAt wr w.heap.size 0 l) := by
        have e : l.take k = l := List.take_of_length_le (by have := HN.out; omega)
        rw [e] at hat
        exact hat
      clear hat hroom
      go_wp2_with fail
      go_ret
      exact ⟨rfl, HF.out, hb⟩
end Go.Proofs.YtgejegmilkmiiaaGreatDoor
/-
  What the laws over lists of items share.
-/
namespace Go.Proofs.YtgejegmilkmiiaaGreatDoor
open Go.ChangeShapes Go.WideShapes Go.ChangeAt Go.RowKit
/-- The slice at a holds the items l. -/
def HdsIn (w : World) (a : Option Addr) (l : List Hdr) : Prop := l = [] ∨ ∃ b off, a = some ⟨b, off, none⟩ ∧ HeadsAt w b off l
theorem HdsIn.keep {w w' : World} {a : Option Addr} {l : List Hdr} (h : HdsIn w a l) (hb : Below w.heap.size w w') : HdsIn w' a l := by
  rcases h with h | ⟨b, off, e, hat⟩
  · exact .inl h
  · exact .inr ⟨b, off, e, hat.keep hb⟩
theorem szH_room {left : Int} {r : Hdr} (h : ¬ szH left r < 0) : (r.name.size : Int) ≤ left ∧ (r.value.size : Int) ≤ left ∧ szH left r ≤ left := by
  by_cases c1 : left - (r.name.size : Int) < 0
  · rw [show szH left r = -1 from by simp [szH, c1]] at h; omega
  · by_cases c2 : left - (r.name.size : Int) - (r.value.size : Int) < 0
    · rw [show szH left r = -1 from by simp [szH, c1, c2]] at h; omega
    · have e : szH left r = left - (r.name.size : Int) - (r.value.size : Int) := by simp [szH, c1, c2]
      rw [e]
      omega
theorem szHs_room (l : List Hdr) : ∀ left : Int, ¬ szHs left l < 0 → left ≤ 1048576 → ∀ (i : Nat) r, l[i]? = some r → r.name.size ≤ 1048576 ∧ r.value.size ≤ 1048576 := by
  induction l with
  | nil => intro left _ _ i r hr; simp at hr
  | cons x l ih =>
    intro left h hl i r hr
    rw [szHs] at h
    by_cases c : szH left x < 0
    · rw [if_pos c] at h; omega
    · rw [if_neg c] at h
      obtain ⟨z1, z2, z3⟩ := szH_room c
      cases i with
      | zero => simp at hr; subst hr; omega
      | succ i => exact ih _ h (by omega) i r (by simpa using hr)
theorem szHL_room {l : List Hdr} {left : Int} (hl : left ≤ 1048576) (h : ¬ szHL left l < 0) : (l.length : Int) ≤ 1048576 ∧ ∀ (i : Nat) r, l[i]? = some r → r.name.size ≤ 1048576 ∧ r.value.size ≤ 1048576 := by
  unfold szHL at h
  by_cases c : left - (l.length : Int) < 0
  · rw [if_pos c] at h; omega
  · rw [if_neg c] at h
    exact ⟨by omega, szHs_room l _ h (by omega)⟩
theorem szHs_le (l : List Hdr) : ∀ left : Int, szHs left l ≤ left ∨ szHs left l < 0 := by
  induction l with
  | nil => intro left; exact .inl (Int.le_refl _)
  | cons x l ih =>
    intro left
    rw [szHs]
    by_cases c : szH left x < 0
    · rw [if_pos c]; right; decide
    · rw [if_neg c]
      have := (szH_room c).2.2
      rcases ih (szH left x) with h | h
      · left; omega
      · right; exact h
theorem szHL_le {l : List Hdr} {left : Int} (h : ¬ szHL left l < 0) : szHL left l ≤ left := by
  unfold szHL at h ⊢
  by_cases c : left - (l.length : Int) < 0
  · rw [if_pos c] at h; omega
  · rw [if_neg c] at h ⊢
    rcases szHs_le l (left - (l.length : Int)) with x | x <;> omega
end Go.Proofs.YtgejegmilkmiiaaGreatDoor
/-
  The laws' comparing of two lists of items that are alike.
-/
namespace Go.Proofs.YtgejegmilkmiiaaGreatDoor
open Go.ChangeShapes Go.WideShapes Go.ChangeAt Go.RowKit Go.Sort
set_option maxRecDepth 100000 in
set_option maxHeartbeats 2000000 in
theorem eqHeaderS_same (w : World) (b1 o1 b2 o2 c1 c2 : Nat) (l : List Hdr) (hl : l.length ≤ 1048576) (h1 : HeadsAt w b1 o1 l) (h2 : HeadsAt w b2 o2 l) :
    Calls Tryz.prog 110 #[.slice (some ⟨b1, o1, none⟩) l.length c1, .slice (some ⟨b2, o2, none⟩) l.length c2] w fun e w' => e = .returned (.bool true) ∧ Below w.heap.size w w' := by
  have H1 : Hid (HeadsAt w b1 o1 l) := h1
  have H2 : Hid (HeadsAt w b2 o2 l) := h2
  clear h1 h2
  generalize hn : l.length = n at *
  have HN : Hid (l.length = n) := hn
  clear hn
  go_enter Tryz.func110, Tryz.ntmps110
  go_wp2_with fail
  go_loopw [5] (fun i wr => ∃ k : Nat, k ≤ n ∧ i = .int .i64 k ∧ Below w.heap.size w wr) (fun i _ => n - (intOf i).toNat)
  case atStart => exact ⟨0, Nat.zero_le _, rfl, Below.refl _ _⟩
  case round =>
    obtain ⟨k, hk, rfl, hb⟩ := hrel
    by_cases hlt : k < n
    · obtain ⟨r, hr⟩ : ∃ r, l[k]? = some r := ⟨l[k]'(by have := HN.out; omega), List.getElem?_eq_getElem _⟩
      obtain ⟨p1, p3⟩ := (H1.out.keep hb) k r hr
      obtain ⟨q1, q3⟩ := (H2.out.keep hb) k r hr
      have x1 := cell_regrown p1
      have x3 := cell_regrown p3
      have y1 := cell_regrown q1
      have y3 := cell_regrown q3
      have cE : ∀ d os, Calls Tryz.prog 130 #[.agg #[.string r.name, .string r.value], .agg #[.string r.name, .string r.value]] (grow (redrawn wr d) os) fun e w'' => e = .returned (.bool true) ∧ ∃ p : Regrown, w'' = grow (redrawn wr p.d) p.os := fun d os => Calls.regrown_of (eqHeader_same r _)
      have g0 : (0 : Int) ≤ k := by omega
      have g : (k : Int) < n := by omega
      clear hr p1 p3 q1 q3
      generalize r.name = rn at *
      generalize r.value = rv at *
      go_wp2_with fail
      refine wp_region_quiet_below (by kernel_rfl) (by kernel_rfl) ?_
      repeat (go_big_quiet_step ((go_at_call 130; exact cE _ _)))
      refine wpQuiet_nil ?_
      intro w2 hw2
      have hbb : Below w.heap.size w w2 := by
        obtain ⟨⟨d, os⟩, rfl⟩ := hw2
        exact hb.trans ((below_regrown wr d os).mono hb.size)
      clear x1 x3 y1 y3 cE hw2 hb
      go_wp2_with fail
      go_roundw
      case rel => exact ⟨k + 1, by omega, by go_num, hbb⟩
      case measure => simp [intOf]; omega
    · go_wp2_with fail
      go_ret
      exact ⟨rfl, hb⟩
end Go.Proofs.YtgejegmilkmiiaaGreatDoor
/-
  The laws' copy of head lines: what it holds may be written.
-/
namespace Go.Proofs.YtgejegmilkmiiaaGreatDoor
open Go.ChangeShapes Go.WideShapes Go.ChangeAt Go.RowKit Go.Sort
set_option maxHeartbeats 2000000 in
theorem toHeaderS_free (w : World) (a : Option Addr) (cap : Nat) (l : List Hdr) (hl : l.length ≤ 1048576) (hi : l = [] ∨ ∃ b off, a = some ⟨b, off, none⟩ ∧ HeadsAt w b off l) :
    Calls Tryz.prog 109 #[.slice a l.length cap] w fun e w' => e = .returned (.slice (some ⟨w.heap.size, 0, none⟩) l.length l.length) ∧ HeadsAt w' w.heap.size 0 l ∧ w.heap.size < w'.heap.size ∧ (∀ o, w'.frozen? ⟨w.heap.size, o, none⟩ = false) ∧ Below w.heap.size w w' := by
  have HI : Hid (l = [] ∨ ∃ b off, a = some ⟨b, off, none⟩ ∧ HeadsAt w b off l) := hi
  obtain ⟨i0, hi0, hz0, hz1, hz2⟩ := info_parts infoHeader
  clear hi
  generalize hn : l.length = n at *
  have HN : Hid (l.length = n) := hn
  clear hn
  go_enter Tryz.func109, Tryz.ntmps109
  go_wp2_with (at_make; refine wpList_make_full w rfl _ _ 24 rfl w.heap.size 158 i0 _ 2 Tryz.underlying24 hi0 hz0 hz1 _ _ _ _ n rfl rfl rfl rfl (by rw [hz2]; omega) (by unfold maxLen; omega) (Nat.le_refl _) ?_; intro w1 hown hgrow)
  have HR1 : Hid (HRoom w1 w.heap.size (n * 2) ∧ (w.heap.size < w1.heap.size ∧ ∀ o, w1.frozen? ⟨w.heap.size, o, none⟩ = false) ∧ Below w.heap.size w w1) := by
    refine ⟨fun j hj => ⟨?_, hown.frozenAt j⟩, ⟨?lt, fun o => hown.frozenAt o⟩, (Below.refl _ _).grown hgrow (Nat.le_refl _) (fun q hq => by cases hq)⟩
    case lt =>
      obtain ⟨_, h | ⟨g, c, cur, e, _, hh, _⟩⟩ := hown
      · cases h.1
      · simp only [Value.slice.injEq, Option.some.injEq] at e
        have e1 := congrArg Addr.block e.1
        simp only at e1
        rw [e1]
        exact (Array.getElem?_eq_some_iff.1 hh).1
    have h1 := hown.cellAt j hj
    have h2 : j < (madeCells (Value.agg #[.string ⟨#[]⟩, .string ⟨#[]⟩]).cells (n * 2)).toList.length := by have := hown.1; omega
    exact ⟨_, h1.trans (List.getElem?_eq_getElem h2)⟩
  clear hown hgrow
  go_loopw [4] (fun i wr => ∃ k : Nat, k ≤ n ∧ i = .int .i64 k ∧ HeadsAt wr w.heap.size 0 (l.take k) ∧ HRoom wr w.heap.size (n * 2) ∧ (w.heap.size < wr.heap.size ∧ ∀ o, wr.frozen? ⟨w.heap.size, o, none⟩ = false) ∧ Below w.heap.size w wr) (fun i _ => n - (intOf i).toNat)
  case atStart => exact ⟨0, Nat.zero_le _, rfl, fun i r hr => by simp at hr, HR1.out.1, HR1.out.2.1, HR1.out.2.2⟩
  case round =>
    obtain ⟨k, hk, rfl, hat, hroom, hfr, hb⟩ := hrel
    have HFR : Hid (w.heap.size < wr.heap.size ∧ ∀ o, wr.frozen? ⟨w.heap.size, o, none⟩ = false) := hfr
    clear hfr
    clear HR1
    by_cases hlt : k < n
    · obtain ⟨r, hr⟩ : ∃ r, l[k]? = some r := ⟨l[k]'(by have := HN.out; omega), List.getElem?_eq_getElem _⟩
      rcases HI.out with h | ⟨b, off, rfl, hsrc⟩
      · subst h; simp at hr
      have hblt : b < w.heap.size := block_lt_of_cell (hsrc k r hr).1
      have hkeep := (hsrc.keep (w' := w) (Below.refl _ _)) k r hr
      have p1 : wr.cell? ⟨b, off + k * 2, none⟩ = some (.string r.name) := by rw [hb.cell (p := ⟨b, off + k * 2, none⟩) hblt]; exact hkeep.1
      have p3 : wr.cell? ⟨b, off + k * 2 + 1, none⟩ = some (.string r.value) := by rw [hb.cell (p := ⟨b, off + k * 2 + 1, none⟩) hblt]; exact hkeep.2
      have HA : Hid (HeadsAt wr w.heap.size 0 (l.take k)) := hat
      have HM : Hid (HRoom wr w.heap.size (n * 2)) := hroom
      have HR : Hid (l[k]? = some r) := hr
      have g : (k : Int) < n := by omega
      clear hat hroom hr hsrc hkeep HI
      go_wp2_with fail
      refine (toHeader_any r _).mono ?_
      rintro e w2 ⟨rfl, hb2⟩
      have HA2 : Hid (HeadsAt w2 w.heap.size 0 (l.take k)) := HA.out.keep hb2
      have HM2 : Hid (HRoom w2 w.heap.size (n * 2)) := HM.out.keep hb2
      have hbb : Below w.heap.size w w2 := hb.trans (hb2.mono hb.size)
      have HFR2 : Hid (w.heap.size < w2.heap.size ∧ ∀ o, w2.frozen? ⟨w.heap.size, o, none⟩ = false) := ⟨Nat.lt_of_lt_of_le HFR.out.1 hb2.size, fun o => by rw [hb2.frozen (p := ⟨w.heap.size, o, none⟩) HFR.out.1]; exact HFR.out.2 o⟩
      obtain ⟨⟨u0, g0⟩, f0⟩ := HM2.out (k * 2) (by omega)
      obtain ⟨⟨u1, g1⟩, f1⟩ := HM2.out (k * 2 + 1) (by omega)
      have HP : Hid (HeadsAt (put2 w2 w.heap.size k r) w.heap.size 0 (l.take (k + 1)) ∧ HRoom (put2 w2 w.heap.size k r) w.heap.size (n * 2)) := ⟨HA2.out.put HR.out HM2.out hlt, HM2.out.put k r⟩
      clear HA HM HA2 HM2 hb2 hb p1 p3
      obtain ⟨rn, rv⟩ := r
      go_wp2_with fail
      go_roundw
      case rel => exact ⟨k + 1, by omega, by go_num, HP.out.1, HP.out.2, ⟨by simpa using HFR2.out.1, fun o => by rw [World.frozen?_setCell, World.frozen?_setCell]; exact HFR2.out.2 o⟩, (hbb.setCell (Nat.le_refl _) _).setCell (Nat.le_refl _) _⟩
      case measure => simp [intOf]; omega
    · have HF : Hid (HeadsAt wr w.heap.size 0 l) := by
        have e : l.take k = l := List.take_of_length_le (by have := HN.out; omega)
        rw [e] at hat
        exact hat
      clear hat hroom
      go_wp2_with fail
      go_ret
      exact ⟨rfl, HF.out, HFR.out.1, HFR.out.2, hb⟩
end Go.Proofs.YtgejegmilkmiiaaGreatDoor
/-
  Requests that came in: measured, taken over, compared.
-/
namespace Go.Proofs.YtgejegmilkmiiaaGreatDoor
open Go.ChangeShapes Go.WideShapes Go.ChangeAt Go.RowKit
/-- Lines of the law's own, that may be written. -/
structure QMine (W : World) (B : Nat) (l : List Hdr) : Prop where
  at0 : HeadsAt W B 0 l
  free : ∀ o, W.frozen? ⟨B, o, none⟩ = false
  lt : B < W.heap.size
theorem QMine.keep {W W' : World} {B : Nat} {l : List Hdr} (h : QMine W B l) (hb : Below W.heap.size W W') : QMine W' B l :=
  ⟨h.at0.keep hb, fun o => by rw [hb.frozen (p := ⟨B, o, none⟩) h.lt]; exact h.free o, Nat.lt_of_lt_of_le h.lt hb.size⟩
def szRq (left : Int) (m h p : ByteArray) (l : List Hdr) : Int :=
  if left - (m.size : Int) < 0 then -1 else if left - (m.size : Int) - (h.size : Int) < 0 then -1 else if left - (m.size : Int) - (h.size : Int) - (p.size : Int) < 0 then -1 else
    if szHL (left - (m.size : Int) - (h.size : Int) - (p.size : Int)) l < 0 then -1 else szHL (left - (m.size : Int) - (h.size : Int) - (p.size : Int)) l
theorem szRq_room {left : Int} {m h p : ByteArray} {l : List Hdr} (hl : left ≤ 1048576) (hz : ¬ szRq left m h p l < 0) : m.size ≤ 1048576 ∧ h.size ≤ 1048576 ∧ p.size ≤ 1048576 ∧ l.length ≤ 1048576 ∧ szRq left m h p l ≤ left := by
  unfold szRq at hz ⊢
  by_cases c1 : left - (m.size : Int) < 0
  · rw [if_pos c1] at hz; omega
  rw [if_neg c1] at hz ⊢
  by_cases c2 : left - (m.size : Int) - (h.size : Int) < 0
  · rw [if_pos c2] at hz; omega
  rw [if_neg c2] at hz ⊢
  by_cases c3 : left - (m.size : Int) - (h.size : Int) - (p.size : Int) < 0
  · rw [if_pos c3] at hz; omega
  rw [if_neg c3] at hz ⊢
  by_cases c4 : szHL (left - (m.size : Int) - (h.size : Int) - (p.size : Int)) l < 0
  · rw [if_pos c4] at hz; omega
  rw [if_neg c4] at hz ⊢
  have a := (szHL_room (by omega) c4).1
  have b := szHL_le c4
  exact ⟨by omega, by omega, by omega, by omega, by omega⟩
set_option maxHeartbeats 2000000 in
theorem szRequest_any (w : World) (m h p : ByteArray) (a : Option Addr) (cap : Nat) (l : List Hdr) (z1 : m.size ≤ maxLen) (z2 : h.size ≤ maxLen) (z3 : p.size ≤ maxLen) (hl : l.length ≤ maxLen) (hz : SmallHdrs l) (hi : HdsIn w a l) (left : Int) (h0 : 0 ≤ left) (h1 : left ≤ 1048576) :
    Calls Tryz.prog 80 #[.agg #[.string m, .string h, .string p, .slice a l.length cap], .int .i64 left] w fun e w' => e = .returned (.int .i64 (szRq left m h p l)) ∧ Below w.heap.size w w' := by
  have HE : Hid (szRq left m h p l = _) := show szRq left m h p l = _ from rfl
  unfold szRq at HE
  obtain ⟨W, hW⟩ : ∃ W, W = w.alloc (.cells #[.string m, .string h, .string p, .slice a l.length cap] 56) := ⟨_, rfl⟩
  have HW : Hid (W = w.alloc (.cells #[.string m, .string h, .string p, .slice a l.length cap] 56)) := hW
  have bW : Below w.heap.size w W := by rw [hW]; exact (Below.refl _ _).alloc (Nat.le_refl _) _
  have HB : Hid (Below w.heap.size w W) := bW
  unfold maxLen at z1 z2 z3
  by_cases c1 : left - (m.size : Int) < 0
  · have HV : Hid (szRq left m h p l = -1) := by show _ = _; unfold szRq; rw [if_pos c1]
    rw [HW.out] at HB
    clear HE hW bW HW hi hz
    generalize l.length = n at *
    go_enter Tryz.func80, Tryz.ntmps80
    go_wp2_with fail
    go_ret
    exact ⟨ret_int HV.out.symm, HB.out⟩
  by_cases c2 : left - (m.size : Int) - (h.size : Int) < 0
  · have HV : Hid (szRq left m h p l = -1) := by show _ = _; unfold szRq; rw [if_neg c1, if_pos c2]
    rw [HW.out] at HB
    clear HE hW bW HW hi hz
    generalize l.length = n at *
    go_enter Tryz.func80, Tryz.ntmps80
    go_wp2_with fail
    go_ret
    exact ⟨ret_int HV.out.symm, HB.out⟩
  by_cases c3 : left - (m.size : Int) - (h.size : Int) - (p.size : Int) < 0
  · have HV : Hid (szRq left m h p l = -1) := by show _ = _; unfold szRq; rw [if_neg c1, if_neg c2, if_pos c3]
    rw [HW.out] at HB
    clear HE hW bW HW hi hz
    generalize l.length = n at *
    go_enter Tryz.func80, Tryz.ntmps80
    go_wp2_with fail
    go_ret
    exact ⟨ret_int HV.out.symm, HB.out⟩
  have C := szHeaderS_any W a cap l hl (hi.keep bW) hz (left - (m.size : Int) - (h.size : Int) - (p.size : Int)) (by omega) (by omega)
  have HV1 : Hid (szHL (left - (m.size : Int) - (h.size : Int) - (p.size : Int)) l < 0 → szRq left m h p l = -1) := fun c => by unfold szRq; rw [if_neg c1, if_neg c2, if_neg c3, if_pos c]
  have HV2 : Hid (¬ szHL (left - (m.size : Int) - (h.size : Int) - (p.size : Int)) l < 0 → szRq left m h p l = szHL (left - (m.size : Int) - (h.size : Int) - (p.size : Int)) l) := fun c => by unfold szRq; rw [if_neg c1, if_neg c2, if_neg c3, if_neg c]
  clear HE hW bW hi hz
  generalize szHL (left - (m.size : Int) - (h.size : Int) - (p.size : Int)) l = z at *
  generalize l.length = n at *
  go_enter Tryz.func80, Tryz.ntmps80
  go_wp2_with fail
  rw [← HW.out]
  refine C.mono ?_
  rintro e w1 ⟨rfl, hb1⟩
  have HB1 : Hid (Below w.heap.size w w1) := HB.out.trans (hb1.mono HB.out.size)
  clear hb1 HB C HW
  by_cases c4 : z < 0
  · have HV := HV1.out c4
    have HV' : Hid (szRq left m h p l = -1) := HV
    clear HV HV1 HV2
    go_wp2_with fail
    go_ret
    exact ⟨ret_int HV'.out.symm, HB1.out⟩
  · have HV' : Hid (szRq left m h p l = z) := HV2.out (by omega)
    clear HV1 HV2
    go_wp2_with fail
    go_ret
    exact ⟨ret_int HV'.out.symm, HB1.out⟩
/-- Four cells of a block, laid out. -/
structure Four (W : World) (B : Nat) (v0 v1 v2 v3 : Value) : Prop where
  c0 : W.cell? ⟨B, 0, none⟩ = some v0
  c1 : W.cell? ⟨B, 1, none⟩ = some v1
  c2 : W.cell? ⟨B, 2, none⟩ = some v2
  c3 : W.cell? ⟨B, 3, none⟩ = some v3
  fr : ∀ o, W.frozen? ⟨B, o, none⟩ = false
  lt : B < W.heap.size
theorem Four.keep {W W' : World} {B : Nat} {v0 v1 v2 v3 : Value} (h : Four W B v0 v1 v2 v3) (hb : Below W.heap.size W W') : Four W' B v0 v1 v2 v3 :=
  ⟨by rw [hb.cell (p := ⟨B, 0, none⟩) h.lt]; exact h.c0, by rw [hb.cell (p := ⟨B, 1, none⟩) h.lt]; exact h.c1, by rw [hb.cell (p := ⟨B, 2, none⟩) h.lt]; exact h.c2, by rw [hb.cell (p := ⟨B, 3, none⟩) h.lt]; exact h.c3,
    fun o => by rw [hb.frozen (p := ⟨B, o, none⟩) h.lt]; exact h.fr o, Nat.lt_of_lt_of_le h.lt hb.size⟩
theorem Four.new (W : World) (v0 v1 v2 v3 : Value) (t : TypeId) : Four (W.alloc (.cells #[v0, v1, v2, v3] t)) W.heap.size v0 v1 v2 v3 :=
  ⟨by rw [World.cell?_alloc_mark]; rfl, by rw [World.cell?_alloc_mark]; rfl, by rw [World.cell?_alloc_mark]; rfl, by rw [World.cell?_alloc_mark]; rfl, fun o => by have e := heap_alloc_new W (.cells #[v0, v1, v2, v3] t); unfold World.frozen?; rw [e]; simp, by simp⟩
set_option maxHeartbeats 2000000 in
theorem toRequest_any (w : World) (m h p : ByteArray) (a : Option Addr) (cap : Nat) (l : List Hdr) (hl : l.length ≤ 1048576) (hi : HdsIn w a l) :
    Calls Tryz.prog 82 #[.agg #[.string m, .string h, .string p, .slice a l.length cap]] w fun e w' => e = .returned (.agg #[.string m, .string h, .string p, .slice (some ⟨w.heap.size + 3, 0, none⟩) l.length l.length]) ∧ QMine w' (w.heap.size + 3) l ∧ Below w.heap.size w w' := by
  obtain ⟨W, hW⟩ : ∃ W, W = ((w.alloc (.cells #[.string m, .string h, .string p, .slice a l.length cap] 56)).alloc (.cells #[.string ⟨#[]⟩, .string ⟨#[]⟩, .string ⟨#[]⟩, .slice none 0 0] 26)).alloc (.cells #[.string m, .string h, .string p, .slice none 0 0] 26) := ⟨_, rfl⟩
  have HW : Hid (W = ((w.alloc (.cells #[.string m, .string h, .string p, .slice a l.length cap] 56)).alloc (.cells #[.string ⟨#[]⟩, .string ⟨#[]⟩, .string ⟨#[]⟩, .slice none 0 0] 26)).alloc (.cells #[.string m, .string h, .string p, .slice none 0 0] 26)) := hW
  have bW : Below w.heap.size w W := by rw [hW]; exact (((Below.refl _ _).alloc (Nat.le_refl _) _).alloc (by simp) _).alloc (by simp; omega) _
  have hsz : W.heap.size = w.heap.size + 3 := by rw [hW]; simp
  have f2 : Four W (w.heap.size + 2) (.string m) (.string h) (.string p) (.slice none 0 0) := by
    rw [hW]
    have := Four.new ((w.alloc (.cells #[.string m, .string h, .string p, .slice a l.length cap] 56)).alloc (.cells #[.string ⟨#[]⟩, .string ⟨#[]⟩, .string ⟨#[]⟩, .slice none 0 0] 26)) (.string m) (.string h) (.string p) (.slice none 0 0) 26
    simpa using this
  have f1 : Four W (w.heap.size + 1) (.string ⟨#[]⟩) (.string ⟨#[]⟩) (.string ⟨#[]⟩) (.slice none 0 0) := by
    rw [hW]
    have := (Four.new (w.alloc (.cells #[.string m, .string h, .string p, .slice a l.length cap] 56)) (.string ⟨#[]⟩) (.string ⟨#[]⟩) (.string ⟨#[]⟩) (.slice none 0 0) 26).keep ((Below.refl _ _).alloc (Nat.le_refl _) (.cells #[.string m, .string h, .string p, .slice none 0 0] 26))
    simpa using this
  have C := toHeaderS_free W a cap l hl (hi.keep bW)
  rw [hsz] at C
  have HB : Hid (Below w.heap.size w W) := bW
  have HZ : Hid (W.heap.size = w.heap.size + 3) := hsz
  have F1 : Hid (Four W (w.heap.size + 1) (.string ⟨#[]⟩) (.string ⟨#[]⟩) (.string ⟨#[]⟩) (.slice none 0 0)) := f1
  have F2 : Hid (Four W (w.heap.size + 2) (.string m) (.string h) (.string p) (.slice none 0 0)) := f2
  clear hW bW hi hsz f1 f2
  generalize l.length = n at *
  go_enter Tryz.func82, Tryz.ntmps82
  go_wp2_with fail
  rw [← HW.out]
  refine C.mono ?_
  rintro e w1 ⟨rfl, hat, hlt, hfr, hb1⟩
  have hb1' : Below W.heap.size W w1 := by rw [HZ.out]; exact hb1
  obtain ⟨a0, a1, a2, a3, af, al⟩ := F2.out.keep hb1'
  obtain ⟨b0, b1, b2, b3, bf, bl⟩ := F1.out.keep hb1'
  have a3f := af 3
  have b0f := bf 0
  have b1f := bf 1
  have b2f := bf 2
  have b3f := bf 3
  have HM : Hid (QMine w1 (w.heap.size + 3) l) := ⟨hat, hfr, hlt⟩
  have HB1 : Hid (Below w.heap.size w w1) := HB.out.trans (hb1'.mono HB.out.size)
  have HQ : Hid (∀ W', (∀ o, W'.cell? ⟨w.heap.size + 3, o, none⟩ = w1.cell? ⟨w.heap.size + 3, o, none⟩) → (∀ o, W'.frozen? ⟨w.heap.size + 3, o, none⟩ = w1.frozen? ⟨w.heap.size + 3, o, none⟩) → W'.heap.size = w1.heap.size → QMine W' (w.heap.size + 3) l) := fun W' h1 h2 h3 =>
    ⟨fun i r hr => by rw [h1, h1]; exact hat i r hr, fun o => by rw [h2]; exact hfr o, by rw [h3]; exact hlt⟩
  clear hat hlt hfr hb1 hb1' C HW HB HZ F1 F2 af bf al bl HM
  go_wp2_with fail
  refine bodyPost_ret (v := .agg #[.string m, .string h, .string p, .slice (some ⟨w.heap.size + 3, 0, none⟩) n n]) ?_ rfl ⟨rfl, HQ.out _ (fun o => ?_) (fun o => ?_) ?_, ?_⟩
  · simp [results, Tryz.results82, go_sem, b0, b1, b2, b3]
  · have ne : ∀ k j : Nat, k < w.heap.size + 3 → (⟨k, j, none⟩ : Addr) ≠ ⟨w.heap.size + 3, o, none⟩ := fun k j hk e => by have := congrArg Addr.block e; simp only at this; omega
    rw [World.cell?_setCell_other _ _ _ _ (ne _ _ (by omega)), World.cell?_setCell_other _ _ _ _ (ne _ _ (by omega)), World.cell?_setCell_other _ _ _ _ (ne _ _ (by omega)), World.cell?_setCell_other _ _ _ _ (ne _ _ (by omega)), World.cell?_setCell_other _ _ _ _ (ne _ _ (by omega))]
  · simp only [World.frozen?_setCell]
  · simp
  · exact ((((HB1.out.setCell (by simp; omega) _).setCell (by simp) _).setCell (by simp) _).setCell (by simp) _).setCell (by simp) _
set_option maxHeartbeats 2000000 in
theorem eqRequest_same (W : World) (m h p : ByteArray) (b1 b2 : Nat) (l : List Hdr) (hl : l.length ≤ 1048576) (h1 : HeadsAt W b1 0 l) (h2 : HeadsAt W b2 0 l) :
    Calls Tryz.prog 84 #[.agg #[.string m, .string h, .string p, .slice (some ⟨b1, 0, none⟩) l.length l.length], .agg #[.string m, .string h, .string p, .slice (some ⟨b2, 0, none⟩) l.length l.length]] W fun e w' => e = .returned (.bool true) ∧ Below W.heap.size W w' := by
  have bW : Below W.heap.size W ((W.alloc (.cells #[.string m, .string h, .string p, .slice (some ⟨b1, 0, none⟩) l.length l.length] 26)).alloc (.cells #[.string m, .string h, .string p, .slice (some ⟨b2, 0, none⟩) l.length l.length] 26)) := ((Below.refl _ _).alloc (Nat.le_refl _) _).alloc (by simp) _
  have C := eqHeaderS_same _ b1 0 b2 0 l.length l.length l hl (h1.keep bW) (h2.keep bW)
  have HB : Hid (Below W.heap.size W _) := bW
  clear bW h1 h2
  generalize l.length = n at *
  go_enter Tryz.func84, Tryz.ntmps84
  go_wp2_with fail
  refine C.mono ?_
  rintro e w1 ⟨rfl, hb1⟩
  have HB1 : Hid (Below W.heap.size W w1) := HB.out.trans (hb1.mono HB.out.size)
  clear hb1 HB C
  go_wp2_with fail
  go_ret
  exact ⟨rfl, HB1.out⟩
end Go.Proofs.YtgejegmilkmiiaaGreatDoor
/-
  Those who wait for a flight, in memory.
-/
namespace Go.Proofs.YtgejegmilkmiiaaGreatDoor
open Go.ChangeShapes Go.WideShapes Go.ChangeAt Go.RowKit
structure Wr where
  rq : Int
  hd : Bool
  du : Int
  lt : Bool
def WrAt (w : World) (b off : Nat) (l : List Wr) : Prop :=
  ∀ (i : Nat) r, l[i]? = some r → w.cell? ⟨b, off + i * 4, none⟩ = some (.int .i64 r.rq) ∧ w.cell? ⟨b, off + i * 4 + 1, none⟩ = some (.bool r.hd) ∧ w.cell? ⟨b, off + i * 4 + 2, none⟩ = some (.int .i64 r.du) ∧ w.cell? ⟨b, off + i * 4 + 3, none⟩ = some (.bool r.lt)
theorem WrAt.keep {w w' : World} {b off : Nat} {l : List Wr} (h : WrAt w b off l) (hb : Below w.heap.size w w') : WrAt w' b off l := by
  intro i r hr
  obtain ⟨p0, p1, p2, p3⟩ := h i r hr
  exact ⟨by rw [hb.cell (block_lt_of_cell p0)]; exact p0, by rw [hb.cell (block_lt_of_cell p1)]; exact p1, by rw [hb.cell (block_lt_of_cell p2)]; exact p2, by rw [hb.cell (block_lt_of_cell p3)]; exact p3⟩
/-- The slice at a holds l. -/
def WrIn (w : World) (a : Option Addr) (l : List Wr) : Prop := l = [] ∨ ∃ b off, a = some ⟨b, off, none⟩ ∧ WrAt w b off l
theorem WrIn.keep {w w' : World} {a : Option Addr} {l : List Wr} (h : WrIn w a l) (hb : Below w.heap.size w w') : WrIn w' a l := by
  rcases h with h | ⟨b, off, e, hat⟩
  · exact .inl h
  · exact .inr ⟨b, off, e, hat.keep hb⟩
theorem dropWr (l : List Wr) (k : Nat) (r : Wr) (h : l[k]? = some r) : l.drop k = r :: l.drop (k + 1) := by
  obtain ⟨hk, rfl⟩ := List.getElem?_eq_some_iff.1 h
  exact List.drop_eq_getElem_cons hk
set_option maxHeartbeats 400000 in
theorem toWr_any (r : Wr) (w : World) :
    Calls Tryz.prog 36 #[.agg #[.int .i64 r.rq, .bool r.hd, .int .i64 r.du, .bool r.lt]] w fun e w' => e = .returned (.agg #[.int .i64 r.rq, .bool r.hd, .int .i64 r.du, .bool r.lt]) ∧ Below w.heap.size w w' := by
  obtain ⟨rq, hd, du, lt⟩ := r
  simp only
  go_enter Tryz.func36, Tryz.ntmps36
  go_wp2
  exact bodyPost_ret (v := .agg #[.int .i64 rq, .bool hd, .int .i64 du, .bool lt]) (by simp [results, Tryz.results36, go_sem]) rfl ⟨rfl, (((Below.refl _ _).alloc (Nat.le_refl _) _).alloc (by simp) _).alloc (by simp; omega) _⟩
set_option maxHeartbeats 400000 in
theorem eqWr_same (r : Wr) (w : World) :
    Calls Tryz.prog 111 #[.agg #[.int .i64 r.rq, .bool r.hd, .int .i64 r.du, .bool r.lt], .agg #[.int .i64 r.rq, .bool r.hd, .int .i64 r.du, .bool r.lt]] w fun e w' => e = .returned (.bool true) ∧ Below w.heap.size w w' := by
  obtain ⟨rq, hd, du, lt⟩ := r
  simp only
  go_enter Tryz.func111, Tryz.ntmps111
  go_wp2
  go_ret
  exact ⟨rfl, ((Below.refl _ _).alloc (Nat.le_refl _) _).alloc (by simp) _⟩
def szWr (left : Int) (n : Nat) : Int := if left - (n : Int) < 0 then -1 else left - (n : Int)
set_option maxHeartbeats 400000 in
theorem szWr_any (w : World) (a : Option Addr) (cap n : Nat) (hl : n ≤ maxLen) (left : Int) (h0 : 0 ≤ left) (h1 : left ≤ 1048576) :
    Calls Tryz.prog 81 #[.slice a n cap, .int .i64 left] w fun e w' => e = .returned (.int .i64 (szWr left n)) ∧ w' = w := by
  unfold maxLen at hl
  by_cases c0 : left - (n : Int) < 0
  · have HE : Hid (szWr left n = -1) := by show _ = _; unfold szWr; rw [if_pos c0]
    go_enter Tryz.func81, Tryz.ntmps81
    go_wp2
    go_ret
    exact ⟨ret_int HE.out.symm, rfl⟩
  · have HE : Hid (szWr left n = left - (n : Int)) := by show _ = _; unfold szWr; rw [if_neg c0]
    have c0' : 0 ≤ left - (n : Int) := by omega
    go_enter Tryz.func81, Tryz.ntmps81
    go_wp2
    go_ret
    exact ⟨ret_int HE.out.symm, rfl⟩
theorem szWr_room {left : Int} {n : Nat} (h1 : left ≤ 1048576) (h : ¬ szWr left n < 0) : (n : Int) ≤ 1048576 ∧ szWr left n ≤ left ∧ 0 ≤ szWr left n := by
  unfold szWr at h ⊢
  by_cases c0 : left - (n : Int) < 0
  · rw [if_pos c0] at h; omega
  · rw [if_neg c0] at h ⊢; omega
end Go.Proofs.YtgejegmilkmiiaaGreatDoor
/-
  The laws' copy of a list, and their comparing of two.
-/
namespace Go.Proofs.YtgejegmilkmiiaaGreatDoor
open Go.ChangeShapes Go.WideShapes Go.ChangeAt Go.RowKit Go.Sort
/-- m cells from the head of block G on are there and may be written. -/
def RoomWr (w : World) (G m : Nat) : Prop := ∀ j, j < m → (∃ u, w.cell? ⟨G, j, none⟩ = some u) ∧ w.frozen? ⟨G, j, none⟩ = false
theorem RoomWr.keep {w w' : World} {G m : Nat} (h : RoomWr w G m) (hb : Below w.heap.size w w') : RoomWr w' G m := by
  intro j hj
  obtain ⟨⟨u, hu⟩, hf⟩ := h j hj
  exact ⟨⟨u, by rw [hb.cell (block_lt_of_cell hu)]; exact hu⟩, by rw [hb.frozen (block_lt_of_cell hu)]; exact hf⟩
theorem RoomWr.set {w : World} {G m : Nat} (h : RoomWr w G m) (a : Addr) (v : Value) : RoomWr (w.setCell a v) G m := by
  intro j hj
  obtain ⟨⟨u, hu⟩, hf⟩ := h j hj
  refine ⟨?_, by rw [World.frozen?_setCell]; exact hf⟩
  by_cases e : a = ⟨G, j, none⟩
  · exact ⟨v, by subst e; exact World.cell?_setCell_same _ _ _ hu⟩
  · exact ⟨u, by rw [World.cell?_setCell_other _ _ _ _ e]; exact hu⟩
def putWr (w : World) (G k : Nat) (r : Wr) : World := (((w.setCell ⟨G, k * 4, none⟩ (.int .i64 r.rq)).setCell ⟨G, k * 4 + 1, none⟩ (.bool r.hd)).setCell ⟨G, k * 4 + 2, none⟩ (.int .i64 r.du)).setCell ⟨G, k * 4 + 3, none⟩ (.bool r.lt)
theorem offWr_ne {G i j : Nat} (h : i ≠ j) : (⟨G, i, none⟩ : Addr) ≠ ⟨G, j, none⟩ := fun e => h (congrArg Addr.off e)
theorem putWr_other (w : World) (G k : Nat) (r : Wr) (j : Nat) (h0 : k * 4 ≠ j) (h1 : k * 4 + 1 ≠ j) (h2 : k * 4 + 2 ≠ j) (h3 : k * 4 + 3 ≠ j) : (putWr w G k r).cell? ⟨G, j, none⟩ = w.cell? ⟨G, j, none⟩ := by
  unfold putWr
  rw [World.cell?_setCell_other _ _ _ _ (offWr_ne h3), World.cell?_setCell_other _ _ _ _ (offWr_ne h2), World.cell?_setCell_other _ _ _ _ (offWr_ne h1), World.cell?_setCell_other _ _ _ _ (offWr_ne h0)]
theorem RoomWr.put {w : World} {G m : Nat} (h : RoomWr w G m) (k : Nat) (r : Wr) : RoomWr (putWr w G k r) G m := (((h.set _ _).set _ _).set _ _).set _ _
theorem WrAt.put {w : World} {G n : Nat} {l : List Wr} {k : Nat} {r : Wr} (h : WrAt w G 0 (l.take k)) (hr : l[k]? = some r) (hm : RoomWr w G (n * 4)) (hk : k < n) : WrAt (putWr w G k r) G 0 (l.take (k + 1)) := by
  intro i q hq
  have hi : i < k + 1 := by
    have := (List.getElem?_eq_some_iff.1 hq).1
    simp at this; omega
  rw [List.getElem?_take_of_lt hi] at hq
  simp only [Nat.zero_add]
  by_cases e : i = k
  · subst e
    rw [hr] at hq
    obtain rfl := Option.some.inj hq
    obtain ⟨⟨u0, g0⟩, _⟩ := hm (i * 4) (by omega)
    obtain ⟨⟨u1, g1⟩, _⟩ := (hm.set ⟨G, i * 4, none⟩ (.int .i64 r.rq)) (i * 4 + 1) (by omega)
    obtain ⟨⟨u2, g2⟩, _⟩ := ((hm.set ⟨G, i * 4, none⟩ (.int .i64 r.rq)).set ⟨G, i * 4 + 1, none⟩ (.bool r.hd)) (i * 4 + 2) (by omega)
    obtain ⟨⟨u3, g3⟩, _⟩ := (((hm.set ⟨G, i * 4, none⟩ (.int .i64 r.rq)).set ⟨G, i * 4 + 1, none⟩ (.bool r.hd)).set ⟨G, i * 4 + 2, none⟩ (.int .i64 r.du)) (i * 4 + 3) (by omega)
    unfold putWr
    exact ⟨by rw [World.cell?_setCell_other _ _ _ _ (offWr_ne (by omega)), World.cell?_setCell_other _ _ _ _ (offWr_ne (by omega)), World.cell?_setCell_other _ _ _ _ (offWr_ne (by omega))]; exact World.cell?_setCell_same _ _ _ g0, by rw [World.cell?_setCell_other _ _ _ _ (offWr_ne (by omega)), World.cell?_setCell_other _ _ _ _ (offWr_ne (by omega))]; exact World.cell?_setCell_same _ _ _ g1, by rw [World.cell?_setCell_other _ _ _ _ (offWr_ne (by omega))]; exact World.cell?_setCell_same _ _ _ g2, by exact World.cell?_setCell_same _ _ _ g3⟩
  · have hq2 : (l.take k)[i]? = some q := by rw [List.getElem?_take_of_lt (by omega)]; exact hq
    obtain ⟨a0, a1, a2, a3⟩ := h i q hq2
    simp only [Nat.zero_add] at a0 a1 a2 a3
    exact ⟨by rw [putWr_other _ _ _ _ _ (by omega) (by omega) (by omega) (by omega)]; exact a0, by rw [putWr_other _ _ _ _ _ (by omega) (by omega) (by omega) (by omega)]; exact a1, by rw [putWr_other _ _ _ _ _ (by omega) (by omega) (by omega) (by omega)]; exact a2, by rw [putWr_other _ _ _ _ _ (by omega) (by omega) (by omega) (by omega)]; exact a3⟩
theorem infoWr : (Tryz.prog.info? 31).map (fun i => (i.zero, i.size, i.bytes)) = some (some (.agg #[.int .i64 0, .bool false, .int .i64 0, .bool false]), 4, 32) := by kernel_rfl
set_option maxHeartbeats 2000000 in
theorem toWrS_any (w : World) (a : Option Addr) (cap : Nat) (l : List Wr) (hl : l.length ≤ 1048576) (hi : WrIn w a l) :
    Calls Tryz.prog 83 #[.slice a l.length cap] w fun e w' => e = .returned (.slice (some ⟨w.heap.size, 0, none⟩) l.length l.length) ∧ WrAt w' w.heap.size 0 l ∧ RoomWr w' w.heap.size (l.length * 4) ∧ w.heap.size < w'.heap.size ∧ Below w.heap.size w w' := by
  have HI : Hid (WrIn w a l) := hi
  obtain ⟨i0, hi0, hz0, hz1, hz2⟩ := info_parts infoWr
  clear hi
  generalize hn : l.length = n at *
  have HN : Hid (l.length = n) := hn
  clear hn
  go_enter Tryz.func83, Tryz.ntmps83
  go_wp2_with (at_make; refine wpList_make_full w rfl _ _ 27 rfl w.heap.size 31 i0 _ 4 Tryz.underlying27 hi0 hz0 hz1 _ _ _ _ n rfl rfl rfl rfl (by rw [hz2]; omega) (by unfold maxLen; omega) (Nat.le_refl _) ?_; intro w1 hown hgrow)
  have HR1 : Hid (RoomWr w1 w.heap.size (n * 4) ∧ w.heap.size < w1.heap.size ∧ Below w.heap.size w w1) := by
    refine ⟨fun j hj => ⟨?_, hown.frozenAt j⟩, (hown.lt _ rfl).2, (Below.refl _ _).grown hgrow (Nat.le_refl _) (fun q hq => by cases hq)⟩
    have h1 := hown.cellAt j hj
    have h2 : j < (madeCells (Value.agg #[.int .i64 0, .bool false, .int .i64 0, .bool false]).cells (n * 4)).toList.length := by have := hown.1; omega
    exact ⟨_, h1.trans (List.getElem?_eq_getElem h2)⟩
  clear hown hgrow
  go_loopw [4] (fun i wr => ∃ k : Nat, k ≤ n ∧ i = .int .i64 k ∧ WrAt wr w.heap.size 0 (l.take k) ∧ RoomWr wr w.heap.size (n * 4) ∧ w.heap.size < wr.heap.size ∧ Below w.heap.size w wr) (fun i _ => n - (intOf i).toNat)
  case atStart => exact ⟨0, Nat.zero_le _, rfl, fun i r hr => by simp at hr, HR1.out.1, HR1.out.2.1, HR1.out.2.2⟩
  case round =>
    obtain ⟨k, hk, rfl, hat, hroom, hup, hb⟩ := hrel
    clear HR1
    by_cases hlt : k < n
    · obtain ⟨r, hr⟩ : ∃ r, l[k]? = some r := ⟨l[k]'(by have := HN.out; omega), List.getElem?_eq_getElem _⟩
      rcases HI.out with h | ⟨b, off, rfl, hsrc⟩
      · subst h; simp at hr
      have hblt : b < w.heap.size := block_lt_of_cell (hsrc k r hr).1
      obtain ⟨q0, q1, q2, q3⟩ := hsrc k r hr
      have p0 : wr.cell? ⟨b, off + k * 4, none⟩ = some (.int .i64 r.rq) := by rw [hb.cell (p := ⟨b, off + k * 4, none⟩) hblt]; exact q0
      have p1 : wr.cell? ⟨b, off + k * 4 + 1, none⟩ = some (.bool r.hd) := by rw [hb.cell (p := ⟨b, off + k * 4 + 1, none⟩) hblt]; exact q1
      have p2 : wr.cell? ⟨b, off + k * 4 + 2, none⟩ = some (.int .i64 r.du) := by rw [hb.cell (p := ⟨b, off + k * 4 + 2, none⟩) hblt]; exact q2
      have p3 : wr.cell? ⟨b, off + k * 4 + 3, none⟩ = some (.bool r.lt) := by rw [hb.cell (p := ⟨b, off + k * 4 + 3, none⟩) hblt]; exact q3
      have HA : Hid (WrAt wr w.heap.size 0 (l.take k)) := hat
      have HM : Hid (RoomWr wr w.heap.size (n * 4)) := hroom
      have HR : Hid (l[k]? = some r) := hr
      have g : (k : Int) < n := by omega
      clear hat hroom hr hsrc q0 q1 q2 q3 HI
      go_wp2_with fail
      refine (toWr_any r _).mono ?_
      rintro e w2 ⟨rfl, hb2⟩
      have HA2 : Hid (WrAt w2 w.heap.size 0 (l.take k)) := HA.out.keep hb2
      have HM2 : Hid (RoomWr w2 w.heap.size (n * 4)) := HM.out.keep hb2
      have hbb : Below w.heap.size w w2 := hb.trans (hb2.mono hb.size)
      have hup2 : w.heap.size < w2.heap.size := Nat.lt_of_lt_of_le hup hb2.size
      obtain ⟨⟨u0, g0⟩, f0⟩ := HM2.out (k * 4) (by omega)
      obtain ⟨⟨u1, g1⟩, f1⟩ := HM2.out (k * 4 + 1) (by omega)
      obtain ⟨⟨u2, g2⟩, f2⟩ := HM2.out (k * 4 + 2) (by omega)
      obtain ⟨⟨u3, g3⟩, f3⟩ := HM2.out (k * 4 + 3) (by omega)
      have HP : Hid (WrAt (putWr w2 w.heap.size k r) w.heap.size 0 (l.take (k + 1)) ∧ RoomWr (putWr w2 w.heap.size k r) w.heap.size (n * 4)) := ⟨HA2.out.put HR.out HM2.out hlt, HM2.out.put k r⟩
      clear HA HM HA2 HM2 hb2 hb p0 p1 p2 p3
      obtain ⟨rrq, rhd, rdu, rlt⟩ := r
      go_wp2_with fail
      go_roundw
      case rel => exact ⟨k + 1, by omega, by go_num, HP.out.1, HP.out.2, by simpa using hup2, (((hbb.setCell (Nat.le_refl _) _).setCell (Nat.le_refl _) _).setCell (Nat.le_refl _) _).setCell (Nat.le_refl _) _⟩
      case measure => simp [intOf]; omega
    · have HF : Hid (WrAt wr w.heap.size 0 l ∧ RoomWr wr w.heap.size (n * 4)) := by
        have e : l.take k = l := List.take_of_length_le (by have := HN.out; omega)
        rw [e] at hat
        exact ⟨hat, hroom⟩
      clear hat hroom
      go_wp2_with fail
      go_ret
      exact ⟨rfl, HF.out.1, HF.out.2, hup, hb⟩
set_option maxRecDepth 100000 in
set_option maxHeartbeats 2000000 in
theorem eqWrS_same (w : World) (a1 a2 : Option Addr) (c1 c2 : Nat) (l : List Wr) (hl : l.length ≤ 1048576) (h1 : WrIn w a1 l) (h2 : WrIn w a2 l) :
    Calls Tryz.prog 85 #[.slice a1 l.length c1, .slice a2 l.length c2] w fun e w' => e = .returned (.bool true) ∧ Below w.heap.size w w' := by
  have H1 : Hid (WrIn w a1 l) := h1
  have H2 : Hid (WrIn w a2 l) := h2
  clear h1 h2
  generalize hn : l.length = n at *
  have HN : Hid (l.length = n) := hn
  clear hn
  go_enter Tryz.func85, Tryz.ntmps85
  go_wp2_with fail
  go_loopw [5] (fun i wr => ∃ k : Nat, k ≤ n ∧ i = .int .i64 k ∧ Below w.heap.size w wr) (fun i _ => n - (intOf i).toNat)
  case atStart => exact ⟨0, Nat.zero_le _, rfl, Below.refl _ _⟩
  case round =>
    obtain ⟨k, hk, rfl, hb⟩ := hrel
    by_cases hlt : k < n
    · obtain ⟨r, hr⟩ : ∃ r, l[k]? = some r := ⟨l[k]'(by have := HN.out; omega), List.getElem?_eq_getElem _⟩
      rcases (H1.out.keep hb) with h | ⟨b1, o1, rfl, at1⟩
      · subst h; simp at hr
      rcases (H2.out.keep hb) with h | ⟨b2, o2, rfl, at2⟩
      · subst h; simp at hr
      obtain ⟨p0, p1, p2, p3⟩ := at1 k r hr
      obtain ⟨q0, q1, q2, q3⟩ := at2 k r hr
      have x0 := cell_regrown p0
      have y0 := cell_regrown q0
      have x1 := cell_regrown p1
      have y1 := cell_regrown q1
      have x2 := cell_regrown p2
      have y2 := cell_regrown q2
      have x3 := cell_regrown p3
      have y3 := cell_regrown q3
      have cE : ∀ d os, Calls Tryz.prog 111 #[.agg #[.int .i64 r.rq, .bool r.hd, .int .i64 r.du, .bool r.lt], .agg #[.int .i64 r.rq, .bool r.hd, .int .i64 r.du, .bool r.lt]] (grow (redrawn wr d) os) fun e w'' => e = .returned (.bool true) ∧ ∃ p : Regrown, w'' = grow (redrawn wr p.d) p.os := fun d os => Calls.regrown_of (eqWr_same r _)
      have g0 : (0 : Int) ≤ k := by omega
      have g : (k : Int) < n := by omega
      clear hr p0 p1 p2 p3 q0 q1 q2 q3 at1 at2
      generalize r.rq = rrq at *
      generalize r.hd = rhd at *
      generalize r.du = rdu at *
      generalize r.lt = rlt at *
      go_wp2_with fail
      refine wp_region_quiet_below (by kernel_rfl) (by kernel_rfl) ?_
      repeat (go_big_quiet_step ((go_at_call 111; exact cE _ _)))
      refine wpQuiet_nil ?_
      intro w2 hw2
      have hbb : Below w.heap.size w w2 := by
        obtain ⟨⟨d, os⟩, rfl⟩ := hw2
        exact hb.trans ((below_regrown wr d os).mono hb.size)
      clear x0 y0 x1 y1 x2 y2 x3 y3 cE hw2 hb
      go_wp2_with fail
      go_roundw
      case rel => exact ⟨k + 1, by omega, by go_num, hbb⟩
      case measure => simp [intOf]; omega
    · go_wp2_with fail
      go_ret
      exact ⟨rfl, hb⟩
end Go.Proofs.YtgejegmilkmiiaaGreatDoor
/-
  Flights, as they lie in memory.
-/
namespace Go.Proofs.YtgejegmilkmiiaaGreatDoor
open Go.ChangeShapes Go.WideShapes Go.ChangeAt Go.RowKit Go.Sort
/-- A flight, plainly. -/
structure Fl where
  id : Int
  key : ByteArray
  bk : Bool
  ot : Bool
  du : Int
  dm : Bool
  m : ByteArray
  h : ByteArray
  p : ByteArray
  hs : List Hdr
  ws : List Wr
/-- Where its lists lie. -/
structure FlR where
  ha : Option Addr
  hc : Nat
  wa : Option Addr
  wc : Nat
def flW (x : Fl) (r : FlR) : List Value := [.int .i64 x.id, .string x.key, .bool x.bk, .bool x.ot, .int .i64 x.du, .bool x.dm, .string x.m, .string x.h, .string x.p, .slice r.ha x.hs.length r.hc, .slice r.wa x.ws.length r.wc]
def flV (x : Fl) (r : FlR) : Value := .agg (flW x r).toArray
/-- Its lists, in a world. -/
structure FlIn (w : World) (x : Fl) (r : FlR) : Prop where
  h : HdsIn w r.ha x.hs
  k : WrIn w r.wa x.ws
  hc : x.hs.length ≤ r.hc
  wc : x.ws.length ≤ r.wc
theorem FlIn.keep {w w' : World} {x : Fl} {r : FlR} (k : FlIn w x r) (hb : Below w.heap.size w w') : FlIn w' x r := ⟨k.h.keep hb, k.k.keep hb, k.hc, k.wc⟩
/-- Flights one behind the other: eleven cells each. -/
def FlsAt (w : World) (b off : Nat) (l : List (Fl × FlR)) : Prop := ∀ (i : Nat) q, l[i]? = some q → (∀ j, j < 11 → w.cell? ⟨b, off + i * 11 + j, none⟩ = (flW q.1 q.2)[j]?) ∧ FlIn w q.1 q.2
theorem FlsAt.keep {w w' : World} {b off : Nat} {l : List (Fl × FlR)} (h : FlsAt w b off l) (hb : Below w.heap.size w w') : FlsAt w' b off l := by
  intro i q hq
  obtain ⟨h1, h2⟩ := h i q hq
  refine ⟨fun j hj => ?_, h2.keep hb⟩
  have c := h1 j hj
  have hlt : b < w.heap.size := by
    have c0 := h1 0 (by omega)
    exact block_lt_of_cell (c0.trans rfl)
  rw [hb.cell (p := ⟨b, off + i * 11 + j, none⟩) hlt]
  exact c
def FlsIn (w : World) (a : Option Addr) (l : List (Fl × FlR)) : Prop := l = [] ∨ ∃ b off, a = some ⟨b, off, none⟩ ∧ FlsAt w b off l
theorem FlsIn.keep {w w' : World} {a : Option Addr} {l : List (Fl × FlR)} (h : FlsIn w a l) (hb : Below w.heap.size w w') : FlsIn w' a l := by
  rcases h with h | ⟨b, off, e, h⟩
  · exact .inl h
  · exact .inr ⟨b, off, e, h.keep hb⟩
/-- Sizes that came in. -/
structure FlSm (x : Fl) : Prop where
  key : x.key.size ≤ maxLen
  m : x.m.size ≤ maxLen
  h : x.h.size ≤ maxLen
  p : x.p.size ≤ maxLen
  hl : x.hs.length ≤ maxLen
  hs : SmallHdrs x.hs
  wl : x.ws.length ≤ maxLen
/-- What fits. -/
structure FlFit (x : Fl) : Prop where
  key : x.key.size ≤ 1048576
  m : x.m.size ≤ 1048576
  hh : x.h.size ≤ 1048576
  p : x.p.size ≤ 1048576
  h : x.hs.length ≤ 1048576
  w : x.ws.length ≤ 1048576
theorem FlsAt.cells {w : World} {b off : Nat} {l : List (Fl × FlR)} (h : FlsAt w b off l) {i : Nat} {q : Fl × FlR} (hq : l[i]? = some q) : w.cell? ⟨b, off + i * 11, none⟩ = some (.int .i64 q.1.id) ∧ w.cell? ⟨b, off + i * 11 + 1, none⟩ = some (.string q.1.key) ∧ w.cell? ⟨b, off + i * 11 + 2, none⟩ = some (.bool q.1.bk) ∧ w.cell? ⟨b, off + i * 11 + 3, none⟩ = some (.bool q.1.ot) ∧ w.cell? ⟨b, off + i * 11 + 4, none⟩ = some (.int .i64 q.1.du) ∧ w.cell? ⟨b, off + i * 11 + 5, none⟩ = some (.bool q.1.dm) ∧ w.cell? ⟨b, off + i * 11 + 6, none⟩ = some (.string q.1.m) ∧ w.cell? ⟨b, off + i * 11 + 7, none⟩ = some (.string q.1.h) ∧ w.cell? ⟨b, off + i * 11 + 8, none⟩ = some (.string q.1.p) ∧ w.cell? ⟨b, off + i * 11 + 9, none⟩ = some (.slice q.2.ha q.1.hs.length q.2.hc) ∧ w.cell? ⟨b, off + i * 11 + 10, none⟩ = some (.slice q.2.wa q.1.ws.length q.2.wc) := by
  have c := (h i q hq).1
  exact ⟨c 0 (by omega), c 1 (by omega), c 2 (by omega), c 3 (by omega), c 4 (by omega), c 5 (by omega), c 6 (by omega), c 7 (by omega), c 8 (by omega), c 9 (by omega), c 10 (by omega)⟩
theorem FlsAt.in {w : World} {b off : Nat} {l : List (Fl × FlR)} (h : FlsAt w b off l) {i : Nat} {q : Fl × FlR} (hq : l[i]? = some q) : FlIn w q.1 q.2 := (h i q hq).2
/-- A flight that lies at a place. -/
def FlHere (w : World) (B O : Nat) (x : Fl) (r : FlR) : Prop := w.cell? ⟨B, O, none⟩ = some (.int .i64 x.id) ∧ w.cell? ⟨B, O + 1, none⟩ = some (.string x.key) ∧ w.cell? ⟨B, O + 2, none⟩ = some (.bool x.bk) ∧ w.cell? ⟨B, O + 3, none⟩ = some (.bool x.ot) ∧ w.cell? ⟨B, O + 4, none⟩ = some (.int .i64 x.du) ∧ w.cell? ⟨B, O + 5, none⟩ = some (.bool x.dm) ∧ w.cell? ⟨B, O + 6, none⟩ = some (.string x.m) ∧ w.cell? ⟨B, O + 7, none⟩ = some (.string x.h) ∧ w.cell? ⟨B, O + 8, none⟩ = some (.string x.p) ∧ w.cell? ⟨B, O + 9, none⟩ = some (.slice r.ha x.hs.length r.hc) ∧ w.cell? ⟨B, O + 10, none⟩ = some (.slice r.wa x.ws.length r.wc)
theorem FlHere.keep {w w' : World} {B O : Nat} {x : Fl} {r : FlR} (h : FlHere w B O x r) (hb : Below w.heap.size w w') : FlHere w' B O x r := by
  have hlt : B < w.heap.size := block_lt_of_cell h.1
  have hc : ∀ o, w'.cell? ⟨B, o, none⟩ = w.cell? ⟨B, o, none⟩ := fun o => hb.cell (p := ⟨B, o, none⟩) hlt
  unfold FlHere
  rw [hc, hc, hc, hc, hc, hc, hc, hc, hc, hc, hc]
  exact h
theorem FlsAt.here {w : World} {b off : Nat} {l : List (Fl × FlR)} (h : FlsAt w b off l) {i : Nat} {q : Fl × FlR} (hq : l[i]? = some q) : FlHere w b (off + i * 11) q.1 q.2 := h.cells hq
end Go.Proofs.YtgejegmilkmiiaaGreatDoor
/-
  A map whose keys are signs: what it holds, as one predicate.
-/
namespace Go.Proofs.YtgejegmilkmiiaaGreatDoor
open Go.ChangeShapes Go.WideShapes Go.ChangeAt Go.RowKit Go.Maps
/-- What something in a list of flights is known by. -/
structure Sg where
  kd : Int
  nm : Int
  tx : ByteArray
def sgEq (a b : Sg) : Bool := decide (a.kd = b.kd) && decide (a.nm = b.nm) && decide (a.tx = b.tx)
theorem sgEq_iff {a b : Sg} : sgEq a b = true ↔ a = b := by
  obtain ⟨a1, a2, a3⟩ := a
  obtain ⟨b1, b2, b3⟩ := b
  simp [sgEq, and_assoc]
def sgV (x : Sg) : Value := .agg #[.int .i64 x.kd, .int .i64 x.nm, .string x.tx]
structure SgOk (x : Sg) : Prop where
  kd : (Lit.int .i64 x.kd).wf = true
  nm : (Lit.int .i64 x.nm).wf = true
  tx : x.tx.size ≤ maxLen
def keyS (x : Sg) : Lit := .string (keyBytes [.int .i64 x.kd, .int .i64 x.nm, .string x.tx.data.toList])
theorem keyedS : Keyed Tryz.prog 116 := Keyed.of_law (deep_law_laid (m := 3) (by kernel_rfl) (by omega) (of_decide_eq_true (by kernel_rfl)) (by kernel_rfl) (by kernel_rfl))
theorem keyOf_three {P : Program} {k ti tj ts : TypeId} {f0 f1 f2 : Field} (u0 : P.underlying k = some (.struct #[f0, f1, f2])) (n0 : (f0.name != "_") = true) (n1 : (f1.name != "_") = true) (n2 : (f2.name != "_") = true) (t0 : f0.type = ti) (t1 : f1.type = tj) (t2 : f2.type = ts) (o0 : f0.offset = 0) (o1 : f1.offset = 1) (o2 : f2.offset = 2)
    (c0 : P.cellsOf k = 3) (c1 : P.cellsOf ti = 1) (c2 : P.cellsOf tj = 1) (c3 : P.cellsOf ts = 1) (u1 : P.underlying ti = some (.int .i64)) (u2 : P.underlying tj = some (.int .i64)) (u3 : P.underlying ts = some .string) (hk : P.keyType k = true) {m : Nat} (hm : P.types.size = m + 1) {a b : Int} {s : ByteArray} (h1 : (Lit.int .i64 a).wf = true) (h2 : (Lit.int .i64 b).wf = true) (h3 : s.size ≤ maxLen) :
    keyOf P k (.agg #[.int .i64 a, .int .i64 b, .string s]) = some (.string (keyBytes [.int .i64 a, .int .i64 b, .string s.data.toList])) := by
  simp [keyOf, u0, hk, Value.formed, c0, hm, Program.keyLits, n0, n1, n2, t0, t1, t2, o0, o1, o2, u1, u2, u3, c1, c2, c3, Value.cells, h1, h2, h3]
theorem keyS_mk {x : Sg} (h : SgOk x) : keyOf Tryz.prog 116 (sgV x) = some (keyS x) :=
  keyOf_three Tryz.underlying116 rfl rfl rfl rfl rfl rfl rfl rfl rfl (by kernel_rfl) (by kernel_rfl) (by kernel_rfl) (by kernel_rfl) Tryz.underlying3 Tryz.underlying2 Tryz.underlying9 (by kernel_rfl) (m := Tryz.prog.types.size - 1) (by kernel_rfl) h.kd h.nm h.tx
theorem keyS_inj {x y : Sg} (hx : SgOk x) (hy : SgOk y) (h : keyS x = keyS y) : x = y := by
  have e := keyedS.inj (keyS_mk hx) (by rw [h]; exact keyS_mk hy)
  obtain ⟨a, b, c⟩ := x
  obtain ⟨d, e', f⟩ := y
  simpa [sgV] using e
theorem keyS_ne {x y : Sg} (hx : SgOk x) (hy : SgOk y) (h : x ≠ y) : keyS x ≠ keyS y := fun e => h (keyS_inj hx hy e)
theorem isKeyS (x : Sg) : WideAt.IsKeyLit (keyS x) := trivial
theorem hzeroS (w : World) : (zeroValue 3).run Tryz.prog w = .ok (.int .i64 0) w := by kernel_rfl
def SgsMap (w : World) (B n : Nat) (p : Sg → Option Nat) : Prop :=
  ∃ D : DataW Unit, w.ownsMap Tryz.prog 116 (plainElem Tryz.prog 3) B n D ∧ ∀ x : Sg, SgOk x → Maps.has D (keyS x) = (p x).isSome ∧ ∀ i, p x = some i → D.atKey (keyS x) (.lit (.int .i64 0)) = .lit (.int .i64 (i : Int))
theorem SgsMap.lt {w : World} {B n : Nat} {p : Sg → Option Nat} (h : SgsMap w B n p) : B < w.heap.size := by
  obtain ⟨D, h, _⟩ := h
  exact h.lt
theorem SgsMap.below {w w' : World} {B n : Nat} {p : Sg → Option Nat} (h : SgsMap w B n p) (hb : Below w.heap.size w w') : SgsMap w' B n p := by
  have hl := h.lt
  obtain ⟨D, ⟨es, clock, hh, r⟩, h2⟩ := h
  exact ⟨D, ⟨es, clock, by rw [hb.block B hl]; exact hh, r⟩, h2⟩
theorem SgsMap.setCell {w : World} {B n : Nat} {p : Sg → Option Nat} (h : SgsMap w B n p) {a : Addr} (ha : B ≠ a.block) (u : Value) : SgsMap (w.setCell a u) B n p := by
  obtain ⟨D, h, h2⟩ := h
  exact ⟨D, h.setCell ha u, h2⟩
theorem SgsMap.made (w : World) : SgsMap (w.alloc (.map #[] 0)) w.heap.size 0 (fun _ => none) :=
  ⟨.map [], World.ownsMap_made w _ _ _, fun x _ => ⟨rfl, fun i h => by cases h⟩⟩
theorem SgsMap.of {w : World} {B n : Nat} {p q : Sg → Option Nat} (h : SgsMap w B n p) (e : ∀ x, p x = q x) : SgsMap w B n q := by
  obtain rfl : p = q := funext e
  exact h
theorem turnedS {w w' : World} {B base : Nat} (h : w.mapTurned w' B) (hb : base ≤ B) : Below base w w' :=
  (Below.refl base w).grown h.grown (by
    obtain ⟨es, clock, es', clock', hh, rfl⟩ := h
    have := (Array.getElem?_eq_some_iff.1 hh).1
    omega) (fun q hq => by cases hq; exact hb)
section
variable {ops : Array Oper} {rest : List Oper} {o : Oper} {a : Act} {Q : Exit → Act → World → Prop}
theorem wpList_lookS_none (w : World) (hg : o.guard = none) (m x : Operand) (hop : o.op = Op.lookup 141 m x true) (B n : Nat) (p : Sg → Option Nat)
    (hm : a.eval m = .map (some B)) (hown : SgsMap w B n p) (key : Sg) (hx : a.eval x = sgV key) (hk : SgOk key) (hp : p key = none)
    (hK : wpList Tryz.prog ops Q rest (a.put o.dst (.tuple #[.int .i64 0, .bool false])) w) : wpList Tryz.prog ops Q (o :: rest) a w := by
  obtain ⟨D, hD, hat⟩ := hown
  have h1 : Maps.has D (keyS key) = false := by rw [(hat key hk).1, hp]; rfl
  refine wpList_lookup_own_ok_int w hg m x 141 hop 116 3 .i64 keyedS Tryz.underlying141 Tryz.underlying3 (hzeroS w) B n D hm hD _ (keyS key) hx (keyS_mk hk) ?_
  intro c hc _
  rw [atKey_of_not_has h1] at hc
  obtain rfl : c = 0 := by simpa using hc.symm
  rw [h1]
  exact hK
theorem wpList_lookS_some (w : World) (hg : o.guard = none) (m x : Operand) (hop : o.op = Op.lookup 141 m x true) (B n : Nat) (p : Sg → Option Nat)
    (hm : a.eval m = .map (some B)) (hown : SgsMap w B n p) (key : Sg) (hx : a.eval x = sgV key) (hk : SgOk key) (i : Nat) (hp : p key = some i)
    (hK : wpList Tryz.prog ops Q rest (a.put o.dst (.tuple #[.int .i64 (i : Int), .bool true])) w) : wpList Tryz.prog ops Q (o :: rest) a w := by
  obtain ⟨D, hD, hat⟩ := hown
  have h1 : Maps.has D (keyS key) = true := by rw [(hat key hk).1, hp]; rfl
  refine wpList_lookup_own_ok_int w hg m x 141 hop 116 3 .i64 keyedS Tryz.underlying141 Tryz.underlying3 (hzeroS w) B n D hm hD _ (keyS key) hx (keyS_mk hk) ?_
  intro c hc _
  rw [(hat key hk).2 i hp] at hc
  obtain rfl : c = (i : Int) := by simpa using hc.symm
  rw [h1]
  exact hK
theorem wpList_putS (w : World) (hg : o.guard = none) (m x v : Operand) (hop : o.op = Op.mapUpdate 141 m x v) (B n : Nat) (p : Sg → Option Nat)
    (hm : a.eval m = .map (some B)) (hown : SgsMap w B n p) (hn : n ≤ 1048576) (key : Sg) (hx : a.eval x = sgV key) (hk : SgOk key) (i : Nat) (hi : i ≤ 1048576) (hv : a.eval v = .int .i64 (i : Int)) (base : Nat) (hbase : base ≤ B)
    (hK : ∀ w', SgsMap w' B (n + 1) (fun y => if sgEq y key = true then some i else p y) → Below base w w' → w.grownBy w' (some B) → wpList Tryz.prog ops Q rest (a.put o.dst undef) w') : wpList Tryz.prog ops Q (o :: rest) a w := by
  obtain ⟨D, hD, hat⟩ := hown
  refine wpList_mapUpdate_in w hg m x v 141 hop 116 3 keyedS Tryz.underlying141 _ B n D hm hD (by unfold maxLen; omega) _ _ (keyS key) hx hv (keyS_mk hk) (.lit (.int .i64 (i : Int))) [] (plainElem_int Tryz.underlying3 (WalkArith.wf_i64 (by omega))) ?_
  intro w' hD' ht
  refine hK w' ⟨_, hD', fun y hy => ?_⟩ (turnedS ht hbase) ht.grown
  by_cases e : y = key
  · subst e
    simp only [sgEq_iff.2 rfl, if_true]
    refine ⟨has_put_same hD.isMap (isKeyS _) _, fun j hj => ?_⟩
    obtain rfl := Option.some.inj hj
    exact atKey_put_same hD.isMap (isKeyS _) _ _
  · simp only [if_neg (fun z => e (sgEq_iff.1 z))]
    rw [has_put_other (keyS_ne hy hk e), atKey_put_other (keyS_ne hy hk e)]
    exact hat y hy
end
end Go.Proofs.YtgejegmilkmiiaaGreatDoor
/-
  Appending, for whatever element: what is appended may be nil.
-/
namespace Go.Proofs.YtgejegmilkmiiaaGreatDoor
open Go.ChangeShapes Go.WideShapes Go.ChangeAt Go.RowKit Go.Sort
theorem row_ge {w : World} {base : Nat} {e : TypeId} {size : Nat} {v : Value} {n : Nat} {xs : List Value} (h : w.ownsRow base e size v n xs) (q : Nat) (hq : v.ownBlock = some q) : base ≤ q := (World.ownsRow.lt h q hq).1
theorem row_form {w : World} {base : Nat} {e : TypeId} {size : Nat} {v : Value} {n : Nat} {xs : List Value} (h : w.ownsRow base e size v n xs) : ∃ va vc, v = .slice va n vc ∧ n ≤ vc := by
  obtain ⟨_, h1 | ⟨g, c2, cur, e2, _, _, hc2, _⟩⟩ := h
  · obtain ⟨rfl, rfl⟩ := h1
    exact ⟨none, 0, rfl, Nat.le_refl _⟩
  · exact ⟨_, c2, e2, hc2⟩
theorem row_below {w w' : World} {base : Nat} {e : TypeId} {size : Nat} {v : Value} {n : Nat} {xs : List Value} (h : w.ownsRow base e size v n xs) (hb : Below w.heap.size w w') : w'.ownsRow base e size v n xs := by
  obtain ⟨h1, h2⟩ := h
  refine ⟨h1, ?_⟩
  rcases h2 with h2 | ⟨g, c, cur, e, hg, hh, hrest⟩
  · exact .inl h2
  · exact .inr ⟨g, c, cur, e, hg, by rw [hb.block g (Array.getElem?_eq_some_iff.1 hh).1]; exact hh, hrest⟩
theorem row_lower {w : World} {b0 base : Nat} {e : TypeId} {size : Nat} {v : Value} {n : Nat} {xs : List Value} (h : w.ownsRow base e size v n xs) (hb : b0 ≤ base) : w.ownsRow b0 e size v n xs := by
  obtain ⟨h1, h2⟩ := h
  refine ⟨h1, ?_⟩
  rcases h2 with h2 | ⟨g, c, cur, e, hg, hrest⟩
  · exact .inl h2
  · exact .inr ⟨g, c, cur, e, by omega, hrest⟩
theorem row_zero {P : Program} (w : World) (t ty e : TypeId) (i : TypeInfo) (ht : P.underlying t = some (.slice e)) (hi : P.info? e = some i) (base : Option Addr) (n k : Nat) (hle : n ≤ k) (pb : Option Addr) (c : Nat) :
    (Builtin.append_ #[t, t] ty #[.slice base n k, .slice pb 0 c]).run P w = .ok (.slice base n k) w := by
  cases base <;> cases pb <;> simp [Builtin.append_, run_underlying ht, sizeOf, typeInfo, hi, Builtin.lenOf, Builtin.firstCells, hle, storeCells, loadCells, loadCellsFrom]
section
variable {P : Program}
theorem wp_append_in {o : Oper} {a : Act} {K : Act → World → Prop} {Q : Exit → Act → World → Prop} (w : World) (s x : Operand) (t e : TypeId)
    (ho : o.op = .call { callee := .builtin .append, args := #[s, x], argTypes := #[t, t] })
    (i : TypeInfo) (z : Value) (size bytes : Nat) (ht : P.underlying t = some (.slice e)) (hi : P.info? e = some i) (hz : i.zero = some z) (hsize : i.size = size) (hby : i.bytes = bytes) (hzs : z.cells.size = size) (hsz : 0 < size)
    (base : Nat) (v : Value) (n : Nat) (xs : List Value) (hs : a.eval s = v) (hown : w.ownsRow base e size v n xs)
    (pa : Option Addr) (cap m : Nat) (news : List Value) (hx : a.eval x = .slice pa m cap) (hl : news.length = m * size) (hnews : m = 0 ∨ ∃ ad, pa = some ad ∧ ∀ j u, news[j]? = some u → w.cell? (ad.add j) = some u) (h1 : ∀ u ∈ news, u.oneCell' = true)
    (h63 : n + m ≤ maxLen) (hbytes : (n + m) * bytes ≤ 140737488355328) (hbase : base ≤ w.heap.size)
    (h : ∀ v' w', w'.ownsRow base e size v' (n + m) (xs ++ news) → Below base w w' → (∀ b o, b < w.heap.size → v.ownBlock ≠ some b → w'.cell? ⟨b, o, none⟩ = w.cell? ⟨b, o, none⟩ ∧ w'.frozen? ⟨b, o, none⟩ = w.frozen? ⟨b, o, none⟩) → K (a.put o.dst v') w') :
    Oper.wp P o a w K Q := by
  by_cases h0 : m = 0
  · subst h0
    obtain ⟨va, vc, rfl, hle⟩ := row_form hown
    have en : news = [] := List.eq_nil_of_length_eq_zero (by rw [hl, Nat.zero_mul])
    subst en
    unfold Oper.wp execOp
    simp only [ho, resolve, invoke, builtin, Sem.run_bind, Sem.run_pure, Result.andThen_ok, List.map_toArray, List.map_cons, List.map_nil, hs, hx]
    rw [row_zero w t _ e i ht hi va n vc hle pa cap]
    exact h _ w (by simpa using hown) (Below.refl _ _) (fun _ _ _ _ => ⟨rfl, rfl⟩)
  · rcases hnews with hnews | ⟨ad, rfl, hnews⟩
    · exact absurd hnews h0
    · refine wp_append_lies w s x t ho base e i z size bytes ht hi hz hsize hby hzs hsz v n xs hs hown ad m cap news hx hl hnews h1 (by omega) h63 hbytes hbase _ rfl ?_
      intro g c w' h1 h2 h3 h4
      exact h _ w' h1 ((Below.refl base w).grown h2 hbase (fun q hq => row_ge hown q hq)) (fun b o hb hne => ⟨h2.cell_far ⟨b, o, none⟩ hb hne.symm, h2.frozen_far ⟨b, o, none⟩ hb hne.symm⟩)
theorem step_append_in {ops : Array Oper} {o : Oper} {a : Act} {K : Act → World → Prop} {Q : Exit → Act → World → Prop} {E : Prop} (w : World) (hgd : o.guard = none) (s x : Operand) (t e : TypeId)
    (ho : o.op = .call { callee := .builtin .append, args := #[s, x], argTypes := #[t, t] })
    (i : TypeInfo) (z : Value) (size bytes : Nat) (ht : P.underlying t = some (.slice e)) (hi : P.info? e = some i) (hz : i.zero = some z) (hsize : i.size = size) (hby : i.bytes = bytes) (hzs : z.cells.size = size) (hsz : 0 < size)
    (base : Nat) (v : Value) (n : Nat) (xs : List Value) (hs : a.eval s = v) (hown : w.ownsRow base e size v n xs)
    (pa : Option Addr) (cap m : Nat) (news : List Value) (hx : a.eval x = .slice pa m cap) (hl : news.length = m * size) (hnews : m = 0 ∨ ∃ ad, pa = some ad ∧ ∀ j u, news[j]? = some u → w.cell? (ad.add j) = some u) (h1 : ∀ u ∈ news, u.oneCell' = true)
    (h63 : n + m ≤ maxLen) (hbytes : (n + m) * bytes ≤ 140737488355328) (hbase : base ≤ w.heap.size)
    (h : ∀ v' w', w'.ownsRow base e size v' (n + m) (xs ++ news) → Below base w w' → (∀ b o, b < w.heap.size → v.ownBlock ≠ some b → w'.cell? ⟨b, o, none⟩ = w.cell? ⟨b, o, none⟩ ∧ w'.frozen? ⟨b, o, none⟩ = w.frozen? ⟨b, o, none⟩) → K (a.put o.dst v') w') :
    if Region.wanted o (yielded ops a.tmps) = true then Oper.wp P o a w K Q else E := by
  have hw : Region.wanted o (yielded ops a.tmps) = true := by simp [Region.wanted, hgd]
  rw [if_pos hw]
  exact wp_append_in w s x t e ho i z size bytes ht hi hz hsize hby hzs hsz base v n xs hs hown pa cap m news hx hl hnews h1 h63 hbytes hbase h
end
end Go.Proofs.YtgejegmilkmiiaaGreatDoor
/-
  Eleven cells that may be written.
-/
namespace Go.Proofs.YtgejegmilkmiiaaGreatDoor
open Go.ChangeShapes Go.WideShapes Go.ChangeAt Go.RowKit
structure E11 (w : World) (b : Nat) (v0 v1 v2 v3 v4 v5 v6 v7 v8 v9 v10 : Value) : Prop where
  c0 : w.cell? ⟨b, 0, none⟩ = some v0
  c1 : w.cell? ⟨b, 1, none⟩ = some v1
  c2 : w.cell? ⟨b, 2, none⟩ = some v2
  c3 : w.cell? ⟨b, 3, none⟩ = some v3
  c4 : w.cell? ⟨b, 4, none⟩ = some v4
  c5 : w.cell? ⟨b, 5, none⟩ = some v5
  c6 : w.cell? ⟨b, 6, none⟩ = some v6
  c7 : w.cell? ⟨b, 7, none⟩ = some v7
  c8 : w.cell? ⟨b, 8, none⟩ = some v8
  c9 : w.cell? ⟨b, 9, none⟩ = some v9
  c10 : w.cell? ⟨b, 10, none⟩ = some v10
  fr : ∀ o, w.frozen? ⟨b, o, none⟩ = false
  lt : b < w.heap.size
section
variable {w w' : World} {b : Nat} {v0 v1 v2 v3 v4 v5 v6 v7 v8 v9 v10 : Value}
theorem E11.keep (k : E11 w b v0 v1 v2 v3 v4 v5 v6 v7 v8 v9 v10) (hb : Below w.heap.size w w') : E11 w' b v0 v1 v2 v3 v4 v5 v6 v7 v8 v9 v10 :=
  ⟨by rw [hb.cell (p := ⟨b, 0, none⟩) k.lt]; exact k.c0, by rw [hb.cell (p := ⟨b, 1, none⟩) k.lt]; exact k.c1, by rw [hb.cell (p := ⟨b, 2, none⟩) k.lt]; exact k.c2, by rw [hb.cell (p := ⟨b, 3, none⟩) k.lt]; exact k.c3, by rw [hb.cell (p := ⟨b, 4, none⟩) k.lt]; exact k.c4, by rw [hb.cell (p := ⟨b, 5, none⟩) k.lt]; exact k.c5, by rw [hb.cell (p := ⟨b, 6, none⟩) k.lt]; exact k.c6, by rw [hb.cell (p := ⟨b, 7, none⟩) k.lt]; exact k.c7, by rw [hb.cell (p := ⟨b, 8, none⟩) k.lt]; exact k.c8, by rw [hb.cell (p := ⟨b, 9, none⟩) k.lt]; exact k.c9, by rw [hb.cell (p := ⟨b, 10, none⟩) k.lt]; exact k.c10, fun o => by rw [hb.frozen (p := ⟨b, o, none⟩) k.lt]; exact k.fr o, Nat.lt_of_lt_of_le k.lt hb.size⟩
theorem E11.low (k : E11 w b v0 v1 v2 v3 v4 v5 v6 v7 v8 v9 v10) {B : Nat} (hb : Below B w w') (h : b < B) : E11 w' b v0 v1 v2 v3 v4 v5 v6 v7 v8 v9 v10 :=
  ⟨by rw [hb.cell (p := ⟨b, 0, none⟩) h]; exact k.c0, by rw [hb.cell (p := ⟨b, 1, none⟩) h]; exact k.c1, by rw [hb.cell (p := ⟨b, 2, none⟩) h]; exact k.c2, by rw [hb.cell (p := ⟨b, 3, none⟩) h]; exact k.c3, by rw [hb.cell (p := ⟨b, 4, none⟩) h]; exact k.c4, by rw [hb.cell (p := ⟨b, 5, none⟩) h]; exact k.c5, by rw [hb.cell (p := ⟨b, 6, none⟩) h]; exact k.c6, by rw [hb.cell (p := ⟨b, 7, none⟩) h]; exact k.c7, by rw [hb.cell (p := ⟨b, 8, none⟩) h]; exact k.c8, by rw [hb.cell (p := ⟨b, 9, none⟩) h]; exact k.c9, by rw [hb.cell (p := ⟨b, 10, none⟩) h]; exact k.c10, fun o => by rw [hb.frozen (p := ⟨b, o, none⟩) h]; exact k.fr o, Nat.lt_of_lt_of_le k.lt hb.size⟩
theorem E11.new (w : World) (v0 v1 v2 v3 v4 v5 v6 v7 v8 v9 v10 : Value) (t : TypeId) : E11 (w.alloc (.cells #[v0, v1, v2, v3, v4, v5, v6, v7, v8, v9, v10] t)) w.heap.size v0 v1 v2 v3 v4 v5 v6 v7 v8 v9 v10 := ⟨by simp, by simp, by simp, by simp, by simp, by simp, by simp, by simp, by simp, by simp, by simp, fun o => by simp, by simp⟩
theorem E11.off (k : E11 w b v0 v1 v2 v3 v4 v5 v6 v7 v8 v9 v10) {B i : Nat} {x : Value} (h : B ≠ b) : E11 (w.setCell ⟨B, i, none⟩ x) b v0 v1 v2 v3 v4 v5 v6 v7 v8 v9 v10 := by
  have ne : ∀ o : Nat, (⟨B, i, none⟩ : Addr) ≠ ⟨b, o, none⟩ := fun o q => h (congrArg Addr.block q)
  exact ⟨by rw [World.cell?_setCell_other _ _ _ _ (ne _)]; exact k.c0, by rw [World.cell?_setCell_other _ _ _ _ (ne _)]; exact k.c1, by rw [World.cell?_setCell_other _ _ _ _ (ne _)]; exact k.c2, by rw [World.cell?_setCell_other _ _ _ _ (ne _)]; exact k.c3, by rw [World.cell?_setCell_other _ _ _ _ (ne _)]; exact k.c4, by rw [World.cell?_setCell_other _ _ _ _ (ne _)]; exact k.c5, by rw [World.cell?_setCell_other _ _ _ _ (ne _)]; exact k.c6, by rw [World.cell?_setCell_other _ _ _ _ (ne _)]; exact k.c7, by rw [World.cell?_setCell_other _ _ _ _ (ne _)]; exact k.c8, by rw [World.cell?_setCell_other _ _ _ _ (ne _)]; exact k.c9, by rw [World.cell?_setCell_other _ _ _ _ (ne _)]; exact k.c10, fun o => by rw [World.frozen?_setCell]; exact k.fr o, by simpa using k.lt⟩
theorem E11.set0 (k : E11 w b v0 v1 v2 v3 v4 v5 v6 v7 v8 v9 v10) (x : Value) : E11 (w.setCell ⟨b, 0, none⟩ x) b x v1 v2 v3 v4 v5 v6 v7 v8 v9 v10 :=
  ⟨World.cell?_setCell_same _ _ _ k.c0, by rw [World.cell?_setCell_other _ _ _ _ (by intro q; have := congrArg Addr.off q; simp at this)]; exact k.c1, by rw [World.cell?_setCell_other _ _ _ _ (by intro q; have := congrArg Addr.off q; simp at this)]; exact k.c2, by rw [World.cell?_setCell_other _ _ _ _ (by intro q; have := congrArg Addr.off q; simp at this)]; exact k.c3, by rw [World.cell?_setCell_other _ _ _ _ (by intro q; have := congrArg Addr.off q; simp at this)]; exact k.c4, by rw [World.cell?_setCell_other _ _ _ _ (by intro q; have := congrArg Addr.off q; simp at this)]; exact k.c5, by rw [World.cell?_setCell_other _ _ _ _ (by intro q; have := congrArg Addr.off q; simp at this)]; exact k.c6, by rw [World.cell?_setCell_other _ _ _ _ (by intro q; have := congrArg Addr.off q; simp at this)]; exact k.c7, by rw [World.cell?_setCell_other _ _ _ _ (by intro q; have := congrArg Addr.off q; simp at this)]; exact k.c8, by rw [World.cell?_setCell_other _ _ _ _ (by intro q; have := congrArg Addr.off q; simp at this)]; exact k.c9, by rw [World.cell?_setCell_other _ _ _ _ (by intro q; have := congrArg Addr.off q; simp at this)]; exact k.c10, fun o => by rw [World.frozen?_setCell]; exact k.fr o, by simpa using k.lt⟩
theorem E11.set1 (k : E11 w b v0 v1 v2 v3 v4 v5 v6 v7 v8 v9 v10) (x : Value) : E11 (w.setCell ⟨b, 1, none⟩ x) b v0 x v2 v3 v4 v5 v6 v7 v8 v9 v10 :=
  ⟨by rw [World.cell?_setCell_other _ _ _ _ (by intro q; have := congrArg Addr.off q; simp at this)]; exact k.c0, World.cell?_setCell_same _ _ _ k.c1, by rw [World.cell?_setCell_other _ _ _ _ (by intro q; have := congrArg Addr.off q; simp at this)]; exact k.c2, by rw [World.cell?_setCell_other _ _ _ _ (by intro q; have := congrArg Addr.off q; simp at this)]; exact k.c3, by rw [World.cell?_setCell_other _ _ _ _ (by intro q; have := congrArg Addr.off q; simp at this)]; exact k.c4, by rw [World.cell?_setCell_other _ _ _ _ (by intro q; have := congrArg Addr.off q; simp at this)]; exact k.c5, by rw [World.cell?_setCell_other _ _ _ _ (by intro q; have := congrArg Addr.off q; simp at this)]; exact k.c6, by rw [World.cell?_setCell_other _ _ _ _ (by intro q; have := congrArg Addr.off q; simp at this)]; exact k.c7, by rw [World.cell?_setCell_other _ _ _ _ (by intro q; have := congrArg Addr.off q; simp at this)]; exact k.c8, by rw [World.cell?_setCell_other _ _ _ _ (by intro q; have := congrArg Addr.off q; simp at this)]; exact k.c9, by rw [World.cell?_setCell_other _ _ _ _ (by intro q; have := congrArg Addr.off q; simp at this)]; exact k.c10, fun o => by rw [World.frozen?_setCell]; exact k.fr o, by simpa using k.lt⟩
theorem E11.set2 (k : E11 w b v0 v1 v2 v3 v4 v5 v6 v7 v8 v9 v10) (x : Value) : E11 (w.setCell ⟨b, 2, none⟩ x) b v0 v1 x v3 v4 v5 v6 v7 v8 v9 v10 :=
  ⟨by rw [World.cell?_setCell_other _ _ _ _ (by intro q; have := congrArg Addr.off q; simp at this)]; exact k.c0, by rw [World.cell?_setCell_other _ _ _ _ (by intro q; have := congrArg Addr.off q; simp at this)]; exact k.c1, World.cell?_setCell_same _ _ _ k.c2, by rw [World.cell?_setCell_other _ _ _ _ (by intro q; have := congrArg Addr.off q; simp at this)]; exact k.c3, by rw [World.cell?_setCell_other _ _ _ _ (by intro q; have := congrArg Addr.off q; simp at this)]; exact k.c4, by rw [World.cell?_setCell_other _ _ _ _ (by intro q; have := congrArg Addr.off q; simp at this)]; exact k.c5, by rw [World.cell?_setCell_other _ _ _ _ (by intro q; have := congrArg Addr.off q; simp at this)]; exact k.c6, by rw [World.cell?_setCell_other _ _ _ _ (by intro q; have := congrArg Addr.off q; simp at this)]; exact k.c7, by rw [World.cell?_setCell_other _ _ _ _ (by intro q; have := congrArg Addr.off q; simp at this)]; exact k.c8, by rw [World.cell?_setCell_other _ _ _ _ (by intro q; have := congrArg Addr.off q; simp at this)]; exact k.c9, by rw [World.cell?_setCell_other _ _ _ _ (by intro q; have := congrArg Addr.off q; simp at this)]; exact k.c10, fun o => by rw [World.frozen?_setCell]; exact k.fr o, by simpa using k.lt⟩
theorem E11.set3 (k : E11 w b v0 v1 v2 v3 v4 v5 v6 v7 v8 v9 v10) (x : Value) : E11 (w.setCell ⟨b, 3, none⟩ x) b v0 v1 v2 x v4 v5 v6 v7 v8 v9 v10 :=
  ⟨by rw [World.cell?_setCell_other _ _ _ _ (by intro q; have := congrArg Addr.off q; simp at this)]; exact k.c0, by rw [World.cell?_setCell_other _ _ _ _ (by intro q; have := congrArg Addr.off q; simp at this)]; exact k.c1, by rw [World.cell?_setCell_other _ _ _ _ (by intro q; have := congrArg Addr.off q; simp at this)]; exact k.c2, World.cell?_setCell_same _ _ _ k.c3, by rw [World.cell?_setCell_other _ _ _ _ (by intro q; have := congrArg Addr.off q; simp at this)]; exact k.c4, by rw [World.cell?_setCell_other _ _ _ _ (by intro q; have := congrArg Addr.off q; simp at this)]; exact k.c5, by rw [World.cell?_setCell_other _ _ _ _ (by intro q; have := congrArg Addr.off q; simp at this)]; exact k.c6, by rw [World.cell?_setCell_other _ _ _ _ (by intro q; have := congrArg Addr.off q; simp at this)]; exact k.c7, by rw [World.cell?_setCell_other _ _ _ _ (by intro q; have := congrArg Addr.off q; simp at this)]; exact k.c8, by rw [World.cell?_setCell_other _ _ _ _ (by intro q; have := congrArg Addr.off q; simp at this)]; exact k.c9, by rw [World.cell?_setCell_other _ _ _ _ (by intro q; have := congrArg Addr.off q; simp at this)]; exact k.c10, fun o => by rw [World.frozen?_setCell]; exact k.fr o, by simpa using k.lt⟩
theorem E11.set4 (k : E11 w b v0 v1 v2 v3 v4 v5 v6 v7 v8 v9 v10) (x : Value) : E11 (w.setCell ⟨b, 4, none⟩ x) b v0 v1 v2 v3 x v5 v6 v7 v8 v9 v10 :=
  ⟨by rw [World.cell?_setCell_other _ _ _ _ (by intro q; have := congrArg Addr.off q; simp at this)]; exact k.c0, by rw [World.cell?_setCell_other _ _ _ _ (by intro q; have := congrArg Addr.off q; simp at this)]; exact k.c1, by rw [World.cell?_setCell_other _ _ _ _ (by intro q; have := congrArg Addr.off q; simp at this)]; exact k.c2, by rw [World.cell?_setCell_other _ _ _ _ (by intro q; have := congrArg Addr.off q; simp at this)]; exact k.c3, World.cell?_setCell_same _ _ _ k.c4, by rw [World.cell?_setCell_other _ _ _ _ (by intro q; have := congrArg Addr.off q; simp at this)]; exact k.c5, by rw [World.cell?_setCell_other _ _ _ _ (by intro q; have := congrArg Addr.off q; simp at this)]; exact k.c6, by rw [World.cell?_setCell_other _ _ _ _ (by intro q; have := congrArg Addr.off q; simp at this)]; exact k.c7, by rw [World.cell?_setCell_other _ _ _ _ (by intro q; have := congrArg Addr.off q; simp at this)]; exact k.c8, by rw [World.cell?_setCell_other _ _ _ _ (by intro q; have := congrArg Addr.off q; simp at this)]; exact k.c9, by rw [World.cell?_setCell_other _ _ _ _ (by intro q; have := congrArg Addr.off q; simp at this)]; exact k.c10, fun o => by rw [World.frozen?_setCell]; exact k.fr o, by simpa using k.lt⟩
theorem E11.set5 (k : E11 w b v0 v1 v2 v3 v4 v5 v6 v7 v8 v9 v10) (x : Value) : E11 (w.setCell ⟨b, 5, none⟩ x) b v0 v1 v2 v3 v4 x v6 v7 v8 v9 v10 :=
  ⟨by rw [World.cell?_setCell_other _ _ _ _ (by intro q; have := congrArg Addr.off q; simp at this)]; exact k.c0, by rw [World.cell?_setCell_other _ _ _ _ (by intro q; have := congrArg Addr.off q; simp at this)]; exact k.c1, by rw [World.cell?_setCell_other _ _ _ _ (by intro q; have := congrArg Addr.off q; simp at this)]; exact k.c2, by rw [World.cell?_setCell_other _ _ _ _ (by intro q; have := congrArg Addr.off q; simp at this)]; exact k.c3, by rw [World.cell?_setCell_other _ _ _ _ (by intro q; have := congrArg Addr.off q; simp at this)]; exact k.c4, World.cell?_setCell_same _ _ _ k.c5, by rw [World.cell?_setCell_other _ _ _ _ (by intro q; have := congrArg Addr.off q; simp at this)]; exact k.c6, by rw [World.cell?_setCell_other _ _ _ _ (by intro q; have := congrArg Addr.off q; simp at this)]; exact k.c7, by rw [World.cell?_setCell_other _ _ _ _ (by intro q; have := congrArg Addr.off q; simp at this)]; exact k.c8, by rw [World.cell?_setCell_other _ _ _ _ (by intro q; have := congrArg Addr.off q; simp at this)]; exact k.c9, by rw [World.cell?_setCell_other _ _ _ _ (by intro q; have := congrArg Addr.off q; simp at this)]; exact k.c10, fun o => by rw [World.frozen?_setCell]; exact k.fr o, by simpa using k.lt⟩
theorem E11.set6 (k : E11 w b v0 v1 v2 v3 v4 v5 v6 v7 v8 v9 v10) (x : Value) : E11 (w.setCell ⟨b, 6, none⟩ x) b v0 v1 v2 v3 v4 v5 x v7 v8 v9 v10 :=
  ⟨by rw [World.cell?_setCell_other _ _ _ _ (by intro q; have := congrArg Addr.off q; simp at this)]; exact k.c0, by rw [World.cell?_setCell_other _ _ _ _ (by intro q; have := congrArg Addr.off q; simp at this)]; exact k.c1, by rw [World.cell?_setCell_other _ _ _ _ (by intro q; have := congrArg Addr.off q; simp at this)]; exact k.c2, by rw [World.cell?_setCell_other _ _ _ _ (by intro q; have := congrArg Addr.off q; simp at this)]; exact k.c3, by rw [World.cell?_setCell_other _ _ _ _ (by intro q; have := congrArg Addr.off q; simp at this)]; exact k.c4, by rw [World.cell?_setCell_other _ _ _ _ (by intro q; have := congrArg Addr.off q; simp at this)]; exact k.c5, World.cell?_setCell_same _ _ _ k.c6, by rw [World.cell?_setCell_other _ _ _ _ (by intro q; have := congrArg Addr.off q; simp at this)]; exact k.c7, by rw [World.cell?_setCell_other _ _ _ _ (by intro q; have := congrArg Addr.off q; simp at this)]; exact k.c8, by rw [World.cell?_setCell_other _ _ _ _ (by intro q; have := congrArg Addr.off q; simp at this)]; exact k.c9, by rw [World.cell?_setCell_other _ _ _ _ (by intro q; have := congrArg Addr.off q; simp at this)]; exact k.c10, fun o => by rw [World.frozen?_setCell]; exact k.fr o, by simpa using k.lt⟩
theorem E11.set7 (k : E11 w b v0 v1 v2 v3 v4 v5 v6 v7 v8 v9 v10) (x : Value) : E11 (w.setCell ⟨b, 7, none⟩ x) b v0 v1 v2 v3 v4 v5 v6 x v8 v9 v10 :=
  ⟨by rw [World.cell?_setCell_other _ _ _ _ (by intro q; have := congrArg Addr.off q; simp at this)]; exact k.c0, by rw [World.cell?_setCell_other _ _ _ _ (by intro q; have := congrArg Addr.off q; simp at this)]; exact k.c1, by rw [World.cell?_setCell_other _ _ _ _ (by intro q; have := congrArg Addr.off q; simp at this)]; exact k.c2, by rw [World.cell?_setCell_other _ _ _ _ (by intro q; have := congrArg Addr.off q; simp at this)]; exact k.c3, by rw [World.cell?_setCell_other _ _ _ _ (by intro q; have := congrArg Addr.off q; simp at this)]; exact k.c4, by rw [World.cell?_setCell_other _ _ _ _ (by intro q; have := congrArg Addr.off q; simp at this)]; exact k.c5, by rw [World.cell?_setCell_other _ _ _ _ (by intro q; have := congrArg Addr.off q; simp at this)]; exact k.c6, World.cell?_setCell_same _ _ _ k.c7, by rw [World.cell?_setCell_other _ _ _ _ (by intro q; have := congrArg Addr.off q; simp at this)]; exact k.c8, by rw [World.cell?_setCell_other _ _ _ _ (by intro q; have := congrArg Addr.off q; simp at this)]; exact k.c9, by rw [World.cell?_setCell_other _ _ _ _ (by intro q; have := congrArg Addr.off q; simp at this)]; exact k.c10, fun o => by rw [World.frozen?_setCell]; exact k.fr o, by simpa using k.lt⟩
theorem E11.set8 (k : E11 w b v0 v1 v2 v3 v4 v5 v6 v7 v8 v9 v10) (x : Value) : E11 (w.setCell ⟨b, 8, none⟩ x) b v0 v1 v2 v3 v4 v5 v6 v7 x v9 v10 :=
  ⟨by rw [World.cell?_setCell_other _ _ _ _ (by intro q; have := congrArg Addr.off q; simp at this)]; exact k.c0, by rw [World.cell?_setCell_other _ _ _ _ (by intro q; have := congrArg Addr.off q; simp at this)]; exact k.c1, by rw [World.cell?_setCell_other _ _ _ _ (by intro q; have := congrArg Addr.off q; simp at this)]; exact k.c2, by rw [World.cell?_setCell_other _ _ _ _ (by intro q; have := congrArg Addr.off q; simp at this)]; exact k.c3, by rw [World.cell?_setCell_other _ _ _ _ (by intro q; have := congrArg Addr.off q; simp at this)]; exact k.c4, by rw [World.cell?_setCell_other _ _ _ _ (by intro q; have := congrArg Addr.off q; simp at this)]; exact k.c5, by rw [World.cell?_setCell_other _ _ _ _ (by intro q; have := congrArg Addr.off q; simp at this)]; exact k.c6, by rw [World.cell?_setCell_other _ _ _ _ (by intro q; have := congrArg Addr.off q; simp at this)]; exact k.c7, World.cell?_setCell_same _ _ _ k.c8, by rw [World.cell?_setCell_other _ _ _ _ (by intro q; have := congrArg Addr.off q; simp at this)]; exact k.c9, by rw [World.cell?_setCell_other _ _ _ _ (by intro q; have := congrArg Addr.off q; simp at this)]; exact k.c10, fun o => by rw [World.frozen?_setCell]; exact k.fr o, by simpa using k.lt⟩
theorem E11.set9 (k : E11 w b v0 v1 v2 v3 v4 v5 v6 v7 v8 v9 v10) (x : Value) : E11 (w.setCell ⟨b, 9, none⟩ x) b v0 v1 v2 v3 v4 v5 v6 v7 v8 x v10 :=
  ⟨by rw [World.cell?_setCell_other _ _ _ _ (by intro q; have := congrArg Addr.off q; simp at this)]; exact k.c0, by rw [World.cell?_setCell_other _ _ _ _ (by intro q; have := congrArg Addr.off q; simp at this)]; exact k.c1, by rw [World.cell?_setCell_other _ _ _ _ (by intro q; have := congrArg Addr.off q; simp at this)]; exact k.c2, by rw [World.cell?_setCell_other _ _ _ _ (by intro q; have := congrArg Addr.off q; simp at this)]; exact k.c3, by rw [World.cell?_setCell_other _ _ _ _ (by intro q; have := congrArg Addr.off q; simp at this)]; exact k.c4, by rw [World.cell?_setCell_other _ _ _ _ (by intro q; have := congrArg Addr.off q; simp at this)]; exact k.c5, by rw [World.cell?_setCell_other _ _ _ _ (by intro q; have := congrArg Addr.off q; simp at this)]; exact k.c6, by rw [World.cell?_setCell_other _ _ _ _ (by intro q; have := congrArg Addr.off q; simp at this)]; exact k.c7, by rw [World.cell?_setCell_other _ _ _ _ (by intro q; have := congrArg Addr.off q; simp at this)]; exact k.c8, World.cell?_setCell_same _ _ _ k.c9, by rw [World.cell?_setCell_other _ _ _ _ (by intro q; have := congrArg Addr.off q; simp at this)]; exact k.c10, fun o => by rw [World.frozen?_setCell]; exact k.fr o, by simpa using k.lt⟩
theorem E11.set10 (k : E11 w b v0 v1 v2 v3 v4 v5 v6 v7 v8 v9 v10) (x : Value) : E11 (w.setCell ⟨b, 10, none⟩ x) b v0 v1 v2 v3 v4 v5 v6 v7 v8 v9 x :=
  ⟨by rw [World.cell?_setCell_other _ _ _ _ (by intro q; have := congrArg Addr.off q; simp at this)]; exact k.c0, by rw [World.cell?_setCell_other _ _ _ _ (by intro q; have := congrArg Addr.off q; simp at this)]; exact k.c1, by rw [World.cell?_setCell_other _ _ _ _ (by intro q; have := congrArg Addr.off q; simp at this)]; exact k.c2, by rw [World.cell?_setCell_other _ _ _ _ (by intro q; have := congrArg Addr.off q; simp at this)]; exact k.c3, by rw [World.cell?_setCell_other _ _ _ _ (by intro q; have := congrArg Addr.off q; simp at this)]; exact k.c4, by rw [World.cell?_setCell_other _ _ _ _ (by intro q; have := congrArg Addr.off q; simp at this)]; exact k.c5, by rw [World.cell?_setCell_other _ _ _ _ (by intro q; have := congrArg Addr.off q; simp at this)]; exact k.c6, by rw [World.cell?_setCell_other _ _ _ _ (by intro q; have := congrArg Addr.off q; simp at this)]; exact k.c7, by rw [World.cell?_setCell_other _ _ _ _ (by intro q; have := congrArg Addr.off q; simp at this)]; exact k.c8, by rw [World.cell?_setCell_other _ _ _ _ (by intro q; have := congrArg Addr.off q; simp at this)]; exact k.c9, World.cell?_setCell_same _ _ _ k.c10, fun o => by rw [World.frozen?_setCell]; exact k.fr o, by simpa using k.lt⟩
end
theorem E11.all {X : World} {b : Nat} {v0 v1 v2 v3 v4 v5 v6 v7 v8 v9 v10 : Value} (k : E11 X b v0 v1 v2 v3 v4 v5 v6 v7 v8 v9 v10) (x0 x1 x2 x3 x4 x5 x6 x7 x8 x9 x10 : Value) : E11 (((((((((((X.setCell ⟨b, 0, none⟩ x0).setCell ⟨b, 1, none⟩ x1).setCell ⟨b, 2, none⟩ x2).setCell ⟨b, 3, none⟩ x3).setCell ⟨b, 4, none⟩ x4).setCell ⟨b, 5, none⟩ x5).setCell ⟨b, 6, none⟩ x6).setCell ⟨b, 7, none⟩ x7).setCell ⟨b, 8, none⟩ x8).setCell ⟨b, 9, none⟩ x9).setCell ⟨b, 10, none⟩ x10) b x0 x1 x2 x3 x4 x5 x6 x7 x8 x9 x10 := (((((((((((k.set0 _).set1 _).set2 _).set3 _).set4 _).set5 _).set6 _).set7 _).set8 _).set9 _).set10 _)
end Go.Proofs.YtgejegmilkmiiaaGreatDoor
/-
  Flights, handed over by the laws: how much room they take.
-/
namespace Go.Proofs.YtgejegmilkmiiaaGreatDoor
open Go.ChangeShapes Go.WideShapes Go.ChangeAt Go.RowKit Go.Sort
/-- How much room is left behind a flight; -1: none. -/
def szF (left : Int) (key m h p : ByteArray) (hs : List Hdr) (n : Nat) : Int :=
  if left - (key.size : Int) < 0 then -1 else
  if szRq (left - (key.size : Int)) m h p hs < 0 then -1 else
  if szRq (left - (key.size : Int)) m h p hs - (n : Int) < 0 then -1 else szRq (left - (key.size : Int)) m h p hs - (n : Int)
theorem szF_room {left : Int} {key m h p : ByteArray} {hs : List Hdr} {n : Nat} (h1 : left ≤ 1048576) (hz : ¬ szF left key m h p hs n < 0) : key.size ≤ 1048576 ∧ m.size ≤ 1048576 ∧ h.size ≤ 1048576 ∧ p.size ≤ 1048576 ∧ hs.length ≤ 1048576 ∧ n ≤ 1048576 ∧ szF left key m h p hs n ≤ left := by
  unfold szF at hz ⊢
  by_cases c1 : left - (key.size : Int) < 0
  · rw [if_pos c1] at hz; omega
  rw [if_neg c1] at hz ⊢
  by_cases c2 : szRq (left - (key.size : Int)) m h p hs < 0
  · rw [if_pos c2] at hz; omega
  rw [if_neg c2] at hz ⊢
  by_cases c3 : szRq (left - (key.size : Int)) m h p hs - (n : Int) < 0
  · rw [if_pos c3] at hz; omega
  rw [if_neg c3]
  obtain ⟨a1, a2, a3, a4, a5⟩ := szRq_room (by omega) c2
  exact ⟨by omega, a1, a2, a3, a4, by omega, by omega⟩
set_option maxHeartbeats 4000000 in
theorem szFlight_any (w : World) (id : Int) (key : ByteArray) (bk ot : Bool) (du : Int) (dm : Bool) (m h p : ByteArray) (ha : Option Addr) (hc : Nat) (wa : Option Addr) (wc : Nat) (hs : List Hdr) (ws : List Wr) (left : Int) (h0 : 0 ≤ left) (h1 : left ≤ 1048576) (hk : key.size ≤ maxLen) (z1 : m.size ≤ maxLen) (z2 : h.size ≤ maxLen) (z3 : p.size ≤ maxLen) (hhl : hs.length ≤ maxLen) (hsm : SmallHdrs hs) (hwl : ws.length ≤ maxLen) (hH : HdsIn w ha hs) :
    Calls Tryz.prog 29 #[.agg #[.int .i64 id, .string key, .bool bk, .bool ot, .int .i64 du, .bool dm, .string m, .string h, .string p, .slice ha hs.length hc, .slice wa ws.length wc], .int .i64 left] w fun r w' => r = .returned (.int .i64 (szF left key m h p hs ws.length)) ∧ Below w.heap.size w w' := by
  have HZH : Hid (∀ W left', Below w.heap.size w W → 0 ≤ left' → left' ≤ 1048576 → Calls Tryz.prog 80 #[.agg #[.string m, .string h, .string p, .slice ha hs.length hc], .int .i64 left'] W fun r w' => r = .returned (.int .i64 (szRq left' m h p hs)) ∧ Below W.heap.size W w') := fun W left' hb a b => szRequest_any W m h p ha hc hs z1 z2 z3 hhl hsm (hH.keep hb) left' a b
  have HZB : Hid (∀ W left', 0 ≤ left' → left' ≤ 1048576 → Calls Tryz.prog 81 #[.slice wa ws.length wc, .int .i64 left'] W fun r w' => r = .returned (.int .i64 (szWr left' ws.length)) ∧ w' = W) := fun W left' a b => szWr_any W wa wc ws.length hwl left' a b
  have HLE : Hid (¬ szRq (left - (key.size : Int)) m h p hs < 0 → szRq (left - (key.size : Int)) m h p hs ≤ left - (key.size : Int)) := fun c => (szRq_room (by omega) c).2.2.2.2
  have HB0 : Hid (Below w.heap.size w (w.alloc (.cells #[.int .i64 id, .string key, .bool bk, .bool ot, .int .i64 du, .bool dm, .string m, .string h, .string p, .slice ha hs.length hc, .slice wa ws.length wc] 59))) := (Below.refl _ _).alloc (Nat.le_refl _) _
  have HC0 : Hid (E11 (w.alloc (.cells #[.int .i64 id, .string key, .bool bk, .bool ot, .int .i64 du, .bool dm, .string m, .string h, .string p, .slice ha hs.length hc, .slice wa ws.length wc] 59)) w.heap.size (.int .i64 id) (.string key) (.bool bk) (.bool ot) (.int .i64 du) (.bool dm) (.string m) (.string h) (.string p) (.slice ha hs.length hc) (.slice wa ws.length wc)) := E11.new w _ _ _ _ _ _ _ _ _ _ _ _
  unfold maxLen at hk
  obtain ⟨Z, hZ⟩ : ∃ Z, szF left key m h p hs ws.length = Z := ⟨_, rfl⟩
  rw [hZ]
  unfold szF at hZ
  have HSZ : Hid (_ = Z) := hZ
  clear hZ
  clear hH hsm hhl z1 z2 z3 hwl
  generalize hz1 : szRq (left - (key.size : Int)) m h p hs = y1 at *
  generalize hs.length = hl at *
  generalize ws.length = wn at *
  by_cases c1 : left - (key.size : Int) < 0
  · have HR := HSZ.out
    rw [if_pos c1] at HR
    rw [← HR]
    clear HSZ HR HLE
    go_enter Tryz.func29, Tryz.ntmps29
    go_wp2_with fail
    go_ret
    exact ⟨rfl, HB0.out⟩
  rw [if_neg c1] at HSZ
  by_cases c2 : y1 < 0
  · have HR := HSZ.out
    rw [if_pos c2] at HR
    rw [← HR]
    clear HSZ HR HLE
    go_enter Tryz.func29, Tryz.ntmps29
    go_wp2_with fail
    refine (HZH.out _ _ HB0.out (by omega) (by omega)).mono ?_
    rintro r w1 ⟨rfl, hb1⟩
    rw [hz1]
    have HB1 : Hid (Below w.heap.size w w1) := HB0.out.trans (hb1.mono HB0.out.size)
    clear hb1
    go_wp2_with fail
    go_ret
    exact ⟨rfl, HB1.out⟩
  rw [if_neg c2] at HSZ
  have hle := HLE.out c2
  have HZ1 : Hid (szRq (left - (key.size : Int)) m h p hs = y1) := hz1
  clear HLE hz1
  have HW : Hid (szWr y1 wn = Z) := by show _ = _; rw [← HSZ.out]; unfold szWr; rfl
  clear HSZ
  go_enter Tryz.func29, Tryz.ntmps29
  go_wp2_with fail
  refine (HZH.out _ _ HB0.out (by omega) (by omega)).mono ?_
  rintro r w1 ⟨rfl, hb1⟩
  rw [HZ1.out]
  have HB1 : Hid (Below w.heap.size w w1) := HB0.out.trans (hb1.mono HB0.out.size)
  have HC1 := HC0.out.keep hb1
  have q3 := HC1.c10
  clear hb1 HC1
  go_wp2_with fail
  refine (HZB.out _ _ (by omega) (by omega)).mono ?_
  rintro r w2 ⟨rfl, rfl⟩
  rw [HW.out]
  have hZ : Z = if y1 - (wn : Int) < 0 then -1 else y1 - (wn : Int) := by rw [← HW.out]; rfl
  by_cases c3 : y1 - (wn : Int) < 0
  · rw [if_pos c3] at hZ
    subst hZ
    go_wp2_with fail
    go_ret
    exact ⟨rfl, HB1.out⟩
  · rw [if_neg c3] at hZ
    have hz0 : ¬ Z < 0 := by omega
    clear HW HZ1 hZ
    go_wp2_with fail
    go_ret
    exact ⟨rfl, HB1.out⟩
theorem szFlight_q (w : World) (q : Fl × FlR) (left : Int) (h0 : 0 ≤ left) (h1 : left ≤ 1048576) (hs : FlSm q.1) (hi : FlIn w q.1 q.2) :
    Calls Tryz.prog 29 #[.agg #[.int .i64 q.1.id, .string q.1.key, .bool q.1.bk, .bool q.1.ot, .int .i64 q.1.du, .bool q.1.dm, .string q.1.m, .string q.1.h, .string q.1.p, .slice q.2.ha q.1.hs.length q.2.hc, .slice q.2.wa q.1.ws.length q.2.wc], .int .i64 left] w fun e w' => e = .returned (.int .i64 (szF left q.1.key q.1.m q.1.h q.1.p q.1.hs q.1.ws.length)) ∧ Below w.heap.size w w' :=
  szFlight_any w _ _ _ _ _ _ _ _ _ _ _ _ _ _ _ left h0 h1 hs.key hs.m hs.h hs.p hs.hl hs.hs hs.wl hi.h
def szFs (c : Int) : List (Fl × FlR) → Int
  | [] => c
  | q :: l => if szF c q.1.key q.1.m q.1.h q.1.p q.1.hs q.1.ws.length < 0 then -1 else szFs (szF c q.1.key q.1.m q.1.h q.1.p q.1.hs q.1.ws.length) l
def szFL (left : Int) (l : List (Fl × FlR)) : Int := if left - (l.length : Int) < 0 then -1 else szFs (left - (l.length : Int)) l
set_option maxHeartbeats 4000000 in
theorem szFlightS_any (w : World) (a : Option Addr) (cap : Nat) (l : List (Fl × FlR)) (hl : l.length ≤ maxLen) (hi : FlsIn w a l) (hz : ∀ q ∈ l, FlSm q.1) (left : Int) (h0 : 0 ≤ left) (h1 : left ≤ 1048576) :
    Calls Tryz.prog 32 #[.slice a l.length cap, .int .i64 left] w fun e w' => e = .returned (.int .i64 (szFL left l)) ∧ Below w.heap.size w w' := by
  unfold maxLen at hl
  have HI : Hid (FlsIn w a l) := hi
  have HZ : Hid (∀ q ∈ l, FlSm q.1) := hz
  clear hi hz
  generalize hn : l.length = n at *
  have HN : Hid (l.length = n) := hn
  by_cases c0 : left - (n : Int) < 0
  · have HE : Hid (szFL left l = -1) := by show _ = _; unfold szFL; rw [hn, if_pos c0]
    clear hn
    go_enter Tryz.func32, Tryz.ntmps32
    go_wp2
    go_ret
    exact ⟨ret_int HE.out.symm, Below.refl _ _⟩
  have HE : Hid (szFL left l = szFs (left - (n : Int)) l) := by show _ = _; unfold szFL; rw [hn, if_neg c0]
  have c0' : 0 ≤ left - (n : Int) := by omega
  clear hn
  go_enter Tryz.func32, Tryz.ntmps32
  go_wp2_with fail
  go_loopw [1, 5] (fun x i wr => ∃ (k : Nat) (c : Int), k ≤ n ∧ i = .int .i64 k ∧ x = .int .i64 c ∧ 0 ≤ c ∧ c ≤ 1048576 ∧ szFL left l = szFs c (l.drop k) ∧ Below w.heap.size w wr) (fun _ i _ => n - (intOf i).toNat)
  case atStart => exact ⟨0, left - (n : Int), Nat.zero_le _, rfl, rfl, c0', by omega, HE.out, Below.refl _ _⟩
  case round =>
    obtain ⟨k, c, hk, rfl, rfl, c2, c3, hs, hb⟩ := hrel
    have HS : Hid (szFL left l = szFs c (l.drop k)) := hs
    clear hs HE
    by_cases hlt : k < n
    · obtain ⟨q, hr⟩ : ∃ r, l[k]? = some r := ⟨l[k]'(by have := HN.out; omega), List.getElem?_eq_getElem _⟩
      rcases HI.out with h | ⟨b, off, rfl, hat⟩
      · subst h; simp at hr
      have PC := (hat.keep hb).cells hr
      have C : Hid (Calls Tryz.prog 29 #[.agg #[.int .i64 q.1.id, .string q.1.key, .bool q.1.bk, .bool q.1.ot, .int .i64 q.1.du, .bool q.1.dm, .string q.1.m, .string q.1.h, .string q.1.p, .slice q.2.ha q.1.hs.length q.2.hc, .slice q.2.wa q.1.ws.length q.2.wc], .int .i64 c] wr fun r w' => r = .returned (.int .i64 (szF c q.1.key q.1.m q.1.h q.1.p q.1.hs q.1.ws.length)) ∧ Below wr.heap.size wr w') := szFlight_q wr q c c2 c3 (HZ.out q (List.mem_of_getElem? hr)) ((hat.keep hb).in hr)
      have HS2 : Hid (szFL left l = if szF c q.1.key q.1.m q.1.h q.1.p q.1.hs q.1.ws.length < 0 then -1 else szFs (szF c q.1.key q.1.m q.1.h q.1.p q.1.hs q.1.ws.length) (l.drop (k + 1))) := by
        show _ = _
        obtain ⟨hk2, hr2⟩ := List.getElem?_eq_some_iff.1 hr
        rw [HS.out, List.drop_eq_getElem_cons hk2, hr2, szFs]
      have HLE : Hid (¬ szF c q.1.key q.1.m q.1.h q.1.p q.1.hs q.1.ws.length < 0 → szF c q.1.key q.1.m q.1.h q.1.p q.1.hs q.1.ws.length ≤ c) := fun h => (szF_room c3 h).2.2.2.2.2.2
      have g : (k : Int) < n := by omega
      have HB : Hid (Below w.heap.size w wr) := hb
      clear HS hr hat HI HZ hb
      generalize szF c q.1.key q.1.m q.1.h q.1.p q.1.hs q.1.ws.length = z at *
      have p0 := PC.1
      have p1 := PC.2.1
      have p2 := PC.2.2.1
      have p3 := PC.2.2.2.1
      have p4 := PC.2.2.2.2.1
      have p5 := PC.2.2.2.2.2.1
      have p6 := PC.2.2.2.2.2.2.1
      have p7 := PC.2.2.2.2.2.2.2.1
      have p8 := PC.2.2.2.2.2.2.2.2.1
      have p9 := PC.2.2.2.2.2.2.2.2.2.1
      have p10 := PC.2.2.2.2.2.2.2.2.2.2
      clear PC
      obtain ⟨⟨id, key, bk, ot, du, dm, mt, ho, pa, hs, ws⟩, ⟨ha, hc, wa, wc⟩⟩ := q
      simp only at p0 p1 p2 p3 p4 p5 p6 p7 p8 p9 p10 C
      go_wp2_with fail
      refine C.out.mono ?_
      rintro r w2 ⟨rfl, hb2⟩
      have HB2 : Hid (Below w.heap.size w w2) := HB.out.trans (hb2.mono HB.out.size)
      clear hb2 p0 p1 p2 p3 p4 p5 p6 p7 p8 p9 p10 C HB
      by_cases hd : z < 0
      · have HF : Hid (szFL left l = -1) := by show _ = _; rw [HS2.out, if_pos hd]
        clear HS2
        go_wp2_with fail
        go_ret
        exact ⟨ret_int HF.out.symm, HB2.out⟩
      · have HF : Hid (szFL left l = szFs z (l.drop (k + 1))) := by show _ = _; rw [HS2.out, if_neg hd]
        have hle := HLE.out (by omega)
        clear HS2 HLE
        go_wp2_with fail
        go_roundw
        case rel => exact ⟨k + 1, z, by omega, by go_num, rfl, by omega, by omega, HF.out, HB2.out⟩
        case measure => simp [intOf]; omega
    · have HF : Hid (szFL left l = c) := by
        show _ = _
        rw [HS.out, List.drop_of_length_le (by have := HN.out; omega), szFs]
      clear HS
      go_wp2_with fail
      go_ret
      exact ⟨ret_int HF.out.symm, hb⟩
theorem szFs_room : ∀ (l : List (Fl × FlR)) (c : Int), c ≤ 1048576 → ¬ szFs c l < 0 → ∀ q ∈ l, FlFit q.1
  | [], _, _, _, q, hq => by simp at hq
  | x :: l, c, hc, hz, q, hq => by
    rw [szFs] at hz
    by_cases c1 : szF c x.1.key x.1.m x.1.h x.1.p x.1.hs x.1.ws.length < 0
    · rw [if_pos c1] at hz; omega
    rw [if_neg c1] at hz
    obtain ⟨a1, a2, a3, a4, a5, a6, a7⟩ := szF_room hc c1
    rcases List.mem_cons.1 hq with rfl | hq
    · exact ⟨a1, a2, a3, a4, a5, a6⟩
    · exact szFs_room l _ (by omega) hz q hq
theorem szFs_le : ∀ (l : List (Fl × FlR)) (c : Int), c ≤ 1048576 → ¬ szFs c l < 0 → szFs c l ≤ c
  | [], _, _, _ => by rw [szFs]; omega
  | x :: l, c, hc, hz => by
    rw [szFs] at hz ⊢
    by_cases c1 : szF c x.1.key x.1.m x.1.h x.1.p x.1.hs x.1.ws.length < 0
    · rw [if_pos c1] at hz; omega
    rw [if_neg c1] at hz ⊢
    obtain ⟨a1, a2, a3, a4, a5, a6, a7⟩ := szF_room hc c1
    have := szFs_le l _ (by omega) hz
    omega
theorem szFL_room {left : Int} {l : List (Fl × FlR)} (h1 : left ≤ 1048576) (hz : ¬ szFL left l < 0) : l.length ≤ 1048576 ∧ (∀ q ∈ l, FlFit q.1) ∧ szFL left l ≤ left ∧ 0 ≤ szFL left l := by
  unfold szFL at hz ⊢
  by_cases c : left - (l.length : Int) < 0
  · rw [if_pos c] at hz; omega
  rw [if_neg c] at hz ⊢
  have := szFs_le l _ (by omega) hz
  exact ⟨by omega, szFs_room l _ (by omega) hz, by omega, by omega⟩
end Go.Proofs.YtgejegmilkmiiaaGreatDoor
/-
  Flights, handed over by the laws: copies.
-/
namespace Go.Proofs.YtgejegmilkmiiaaGreatDoor
open Go.ChangeShapes Go.WideShapes Go.ChangeAt Go.RowKit Go.Sort
theorem QMine.off1 {W : World} {B b i : Nat} {l : List Hdr} (h : QMine W B l) (x : Value) (hne : b ≠ B) : QMine (W.setCell ⟨b, i, none⟩ x) B l := by
  have ne : ∀ o : Nat, (⟨b, i, none⟩ : Addr) ≠ ⟨B, o, none⟩ := fun o q => hne (congrArg Addr.block q)
  exact ⟨fun k r hr => by rw [World.cell?_setCell_other _ _ _ _ (ne _), World.cell?_setCell_other _ _ _ _ (ne _)]; exact h.at0 k r hr, fun o => by rw [World.frozen?_setCell]; exact h.free o, by simpa using h.lt⟩
/-- Waiters that lie in a block of their own. -/
structure WrMine (W : World) (B : Nat) (l : List Wr) : Prop where
  at0 : WrAt W B 0 l
  room : RoomWr W B (l.length * 4)
  lt : B < W.heap.size
theorem WrMine.keep {W W' : World} {B : Nat} {l : List Wr} (h : WrMine W B l) (hb : Below W.heap.size W W') : WrMine W' B l := ⟨h.at0.keep hb, h.room.keep hb, Nat.lt_of_lt_of_le h.lt hb.size⟩
theorem WrMine.in {W : World} {B : Nat} {l : List Wr} (h : WrMine W B l) : WrIn W (some ⟨B, 0, none⟩) l := .inr ⟨B, 0, rfl, h.at0⟩
theorem WrMine.off1 {W : World} {B b i : Nat} {l : List Wr} (h : WrMine W B l) (x : Value) (hne : b ≠ B) : WrMine (W.setCell ⟨b, i, none⟩ x) B l := by
  have ne : ∀ o : Nat, (⟨b, i, none⟩ : Addr) ≠ ⟨B, o, none⟩ := fun o q => hne (congrArg Addr.block q)
  exact ⟨fun k r hr => by rw [World.cell?_setCell_other _ _ _ _ (ne _), World.cell?_setCell_other _ _ _ _ (ne _), World.cell?_setCell_other _ _ _ _ (ne _), World.cell?_setCell_other _ _ _ _ (ne _)]; exact h.at0 k r hr, h.room.set _ _, by simpa using h.lt⟩
set_option maxHeartbeats 8000000 in
theorem toFlight_any (w : World) (id : Int) (key : ByteArray) (bk ot : Bool) (du : Int) (dm : Bool) (m h p : ByteArray) (ha : Option Addr) (hc : Nat) (wa : Option Addr) (wc : Nat) (hs : List Hdr) (ws : List Wr) (hhl : hs.length ≤ 1048576) (hwl : ws.length ≤ 1048576) (hH : HdsIn w ha hs) (hW2 : WrIn w wa ws) :
    Calls Tryz.prog 30 #[.agg #[.int .i64 id, .string key, .bool bk, .bool ot, .int .i64 du, .bool dm, .string m, .string h, .string p, .slice ha hs.length hc, .slice wa ws.length wc]] w fun e w' => (∃ B2, e = .returned (.agg #[.int .i64 id, .string key, .bool bk, .bool ot, .int .i64 du, .bool dm, .string m, .string h, .string p, .slice (some ⟨w.heap.size + 6, 0, none⟩) hs.length hs.length, .slice (some ⟨B2, 0, none⟩) ws.length ws.length]) ∧ QMine w' (w.heap.size + 6) hs ∧ WrMine w' B2 ws ∧ w.heap.size + 6 < B2) ∧ Below w.heap.size w w' := by
  obtain ⟨W, hW⟩ : ∃ W, W = ((w.alloc (.cells #[.int .i64 id, .string key, .bool bk, .bool ot, .int .i64 du, .bool dm, .string m, .string h, .string p, .slice ha hs.length hc, .slice wa ws.length wc] 59)).alloc (.cells #[.int .i64 0, .string ⟨#[]⟩, .bool false, .bool false, .int .i64 0, .bool false, .string ⟨#[]⟩, .string ⟨#[]⟩, .string ⟨#[]⟩, .slice none 0 0, .slice none 0 0] 29)).alloc (.cells #[.int .i64 id, .string key, .bool bk, .bool ot, .int .i64 du, .bool dm, .string ⟨#[]⟩, .string ⟨#[]⟩, .string ⟨#[]⟩, .slice none 0 0, .slice none 0 0] 29) := ⟨_, rfl⟩
  have bW : Below w.heap.size w W := by rw [hW]; exact (((Below.refl _ _).alloc (Nat.le_refl _) _).alloc (by simp) _).alloc (by simp; omega) _
  have hsz : W.heap.size = w.heap.size + 3 := by rw [hW]; simp
  have HW : Hid (W = ((w.alloc (.cells #[.int .i64 id, .string key, .bool bk, .bool ot, .int .i64 du, .bool dm, .string m, .string h, .string p, .slice ha hs.length hc, .slice wa ws.length wc] 59)).alloc (.cells #[.int .i64 0, .string ⟨#[]⟩, .bool false, .bool false, .int .i64 0, .bool false, .string ⟨#[]⟩, .string ⟨#[]⟩, .string ⟨#[]⟩, .slice none 0 0, .slice none 0 0] 29)).alloc (.cells #[.int .i64 id, .string key, .bool bk, .bool ot, .int .i64 du, .bool dm, .string ⟨#[]⟩, .string ⟨#[]⟩, .string ⟨#[]⟩, .slice none 0 0, .slice none 0 0] 29)) := hW
  have f2 : E11 W (w.heap.size + 2) (.int .i64 id) (.string key) (.bool bk) (.bool ot) (.int .i64 du) (.bool dm) (.string ⟨#[]⟩) (.string ⟨#[]⟩) (.string ⟨#[]⟩) (.slice none 0 0) (.slice none 0 0) := by
    rw [hW]
    have := E11.new ((w.alloc (.cells #[.int .i64 id, .string key, .bool bk, .bool ot, .int .i64 du, .bool dm, .string m, .string h, .string p, .slice ha hs.length hc, .slice wa ws.length wc] 59)).alloc (.cells #[.int .i64 0, .string ⟨#[]⟩, .bool false, .bool false, .int .i64 0, .bool false, .string ⟨#[]⟩, .string ⟨#[]⟩, .string ⟨#[]⟩, .slice none 0 0, .slice none 0 0] 29)) (.int .i64 id) (.string key) (.bool bk) (.bool ot) (.int .i64 du) (.bool dm) (.string ⟨#[]⟩) (.string ⟨#[]⟩) (.string ⟨#[]⟩) (.slice none 0 0) (.slice none 0 0) 29
    simpa using this
  have f1 : E11 W (w.heap.size + 1) (.int .i64 0) (.string ⟨#[]⟩) (.bool false) (.bool false) (.int .i64 0) (.bool false) (.string ⟨#[]⟩) (.string ⟨#[]⟩) (.string ⟨#[]⟩) (.slice none 0 0) (.slice none 0 0) := by
    rw [hW]
    have := (E11.new (w.alloc (.cells #[.int .i64 id, .string key, .bool bk, .bool ot, .int .i64 du, .bool dm, .string m, .string h, .string p, .slice ha hs.length hc, .slice wa ws.length wc] 59)) (.int .i64 0) (.string ⟨#[]⟩) (.bool false) (.bool false) (.int .i64 0) (.bool false) (.string ⟨#[]⟩) (.string ⟨#[]⟩) (.string ⟨#[]⟩) (.slice none 0 0) (.slice none 0 0) 29).keep ((Below.refl _ _).alloc (Nat.le_refl _) (.cells #[.int .i64 id, .string key, .bool bk, .bool ot, .int .i64 du, .bool dm, .string ⟨#[]⟩, .string ⟨#[]⟩, .string ⟨#[]⟩, .slice none 0 0, .slice none 0 0] 29))
    simpa using this
  have f0 : E11 W (w.heap.size) (.int .i64 id) (.string key) (.bool bk) (.bool ot) (.int .i64 du) (.bool dm) (.string m) (.string h) (.string p) (.slice ha hs.length hc) (.slice wa ws.length wc) := by
    rw [hW]
    exact ((E11.new w (.int .i64 id) (.string key) (.bool bk) (.bool ot) (.int .i64 du) (.bool dm) (.string m) (.string h) (.string p) (.slice ha hs.length hc) (.slice wa ws.length wc) 59).keep ((Below.refl _ _).alloc (Nat.le_refl _) _)).keep ((Below.refl _ _).alloc (Nat.le_refl _) _)
  have K0 : Hid (Below w.heap.size w W ∧ E11 W (w.heap.size) (.int .i64 id) (.string key) (.bool bk) (.bool ot) (.int .i64 du) (.bool dm) (.string m) (.string h) (.string p) (.slice ha hs.length hc) (.slice wa ws.length wc) ∧ E11 W (w.heap.size + 1) (.int .i64 0) (.string ⟨#[]⟩) (.bool false) (.bool false) (.int .i64 0) (.bool false) (.string ⟨#[]⟩) (.string ⟨#[]⟩) (.string ⟨#[]⟩) (.slice none 0 0) (.slice none 0 0) ∧ E11 W (w.heap.size + 2) (.int .i64 id) (.string key) (.bool bk) (.bool ot) (.int .i64 du) (.bool dm) (.string ⟨#[]⟩) (.string ⟨#[]⟩) (.string ⟨#[]⟩) (.slice none 0 0) (.slice none 0 0) ∧ W.heap.size = w.heap.size + 3) := ⟨bW, f0, f1, f2, hsz⟩
  have C := toRequest_any W m h p ha hc hs hhl (hH.keep bW)
  rw [hsz] at C
  have HCW : Hid (∀ X, Below w.heap.size w X → Calls Tryz.prog 83 #[.slice wa ws.length wc] X fun e w' => e = .returned (.slice (some ⟨X.heap.size, 0, none⟩) ws.length ws.length) ∧ WrMine w' X.heap.size ws ∧ Below X.heap.size X w') := fun X hX => (toWrS_any X wa wc ws hwl (hW2.keep hX)).mono fun e w' ⟨a, b, c, d, e⟩ => ⟨a, ⟨b, c, d⟩, e⟩
  clear hW bW hsz f0 f1 f2 hH hW2 hhl hwl
  generalize hn1 : hs.length = hl at *
  generalize hn2 : ws.length = wn at *
  clear hn1 hn2
  go_enter Tryz.func30, Tryz.ntmps30
  go_wp2_with fail
  rw [← HW.out]
  refine C.mono ?_
  rintro e0 w1 ⟨rfl, hq, hb1⟩
  have hb1' : Below W.heap.size W w1 := by rw [K0.out.2.2.2.2]; exact hb1
  have K1 : Hid (Below w.heap.size w w1 ∧ E11 w1 (w.heap.size) (.int .i64 id) (.string key) (.bool bk) (.bool ot) (.int .i64 du) (.bool dm) (.string m) (.string h) (.string p) (.slice ha hl hc) (.slice wa wn wc) ∧ E11 w1 (w.heap.size + 1) (.int .i64 0) (.string ⟨#[]⟩) (.bool false) (.bool false) (.int .i64 0) (.bool false) (.string ⟨#[]⟩) (.string ⟨#[]⟩) (.string ⟨#[]⟩) (.slice none 0 0) (.slice none 0 0) ∧ E11 w1 (w.heap.size + 2) (.int .i64 id) (.string key) (.bool bk) (.bool ot) (.int .i64 du) (.bool dm) (.string ⟨#[]⟩) (.string ⟨#[]⟩) (.string ⟨#[]⟩) (.slice none 0 0) (.slice none 0 0) ∧ QMine w1 (w.heap.size + 6) hs) := ⟨K0.out.1.trans (hb1'.mono K0.out.1.size), K0.out.2.1.keep hb1', K0.out.2.2.1.keep hb1', K0.out.2.2.2.1.keep hb1', hq⟩
  clear C hq hb1 hb1' K0 HW
  obtain ⟨V1, hV1⟩ : ∃ V, V = ((((w1.setCell ⟨w.heap.size + 2, 6, none⟩ (.string m)).setCell ⟨w.heap.size + 2, 7, none⟩ (.string h)).setCell ⟨w.heap.size + 2, 8, none⟩ (.string p)).setCell ⟨w.heap.size + 2, 9, none⟩ (.slice (some ⟨w.heap.size + 6, 0, none⟩) hl hl)) := ⟨_, rfl⟩
  have HV1 : Hid (V1 = ((((w1.setCell ⟨w.heap.size + 2, 6, none⟩ (.string m)).setCell ⟨w.heap.size + 2, 7, none⟩ (.string h)).setCell ⟨w.heap.size + 2, 8, none⟩ (.string p)).setCell ⟨w.heap.size + 2, 9, none⟩ (.slice (some ⟨w.heap.size + 6, 0, none⟩) hl hl))) := hV1
  clear hV1
  have K1b : Hid (Below w.heap.size w V1 ∧ E11 V1 (w.heap.size) (.int .i64 id) (.string key) (.bool bk) (.bool ot) (.int .i64 du) (.bool dm) (.string m) (.string h) (.string p) (.slice ha hl hc) (.slice wa wn wc) ∧ E11 V1 (w.heap.size + 1) (.int .i64 0) (.string ⟨#[]⟩) (.bool false) (.bool false) (.int .i64 0) (.bool false) (.string ⟨#[]⟩) (.string ⟨#[]⟩) (.string ⟨#[]⟩) (.slice none 0 0) (.slice none 0 0) ∧ E11 V1 (w.heap.size + 2) (.int .i64 id) (.string key) (.bool bk) (.bool ot) (.int .i64 du) (.bool dm) (.string m) (.string h) (.string p) (.slice (some ⟨w.heap.size + 6, 0, none⟩) hl hl) (.slice none 0 0) ∧ QMine V1 (w.heap.size + 6) hs) := by
    rw [HV1.out]
    obtain ⟨p1, p2, p3, p4, p5⟩ := K1.out
    exact ⟨(((p1.setCell (by simp) _).setCell (by simp) _).setCell (by simp) _).setCell (by simp) _, (((p2.off (by omega)).off (by omega)).off (by omega)).off (by omega), (((p3.off (by omega)).off (by omega)).off (by omega)).off (by omega), (((p4.set6 _).set7 _).set8 _).set9 _, (((p5.off1 _ (by omega)).off1 _ (by omega)).off1 _ (by omega)).off1 _ (by omega)⟩
  have a6 := K1.out.2.2.2.1.c6
  have af6 := K1.out.2.2.2.1.fr 6
  have a7 := K1.out.2.2.2.1.c7
  have af7 := K1.out.2.2.2.1.fr 7
  have a8 := K1.out.2.2.2.1.c8
  have af8 := K1.out.2.2.2.1.fr 8
  have a9 := K1.out.2.2.2.1.c9
  have af9 := K1.out.2.2.2.1.fr 9
  have g10 := K1.out.2.1.c10
  clear K1
  go_wp2_with fail
  rw [← HV1.out]
  clear a6 af6 a7 af7 a8 af8 a9 af9 g10 HV1
  refine (HCW.out V1 K1b.out.1).mono ?_
  rintro e0 w2 ⟨rfl, hbm, hb2⟩
  obtain ⟨B2, hB2⟩ : ∃ B, V1.heap.size = B := ⟨_, rfl⟩
  have K2 : Hid (Below w.heap.size w w2 ∧ E11 w2 (w.heap.size + 1) (.int .i64 0) (.string ⟨#[]⟩) (.bool false) (.bool false) (.int .i64 0) (.bool false) (.string ⟨#[]⟩) (.string ⟨#[]⟩) (.string ⟨#[]⟩) (.slice none 0 0) (.slice none 0 0) ∧ E11 w2 (w.heap.size + 2) (.int .i64 id) (.string key) (.bool bk) (.bool ot) (.int .i64 du) (.bool dm) (.string m) (.string h) (.string p) (.slice (some ⟨w.heap.size + 6, 0, none⟩) hl hl) (.slice none 0 0) ∧ QMine w2 (w.heap.size + 6) hs ∧ WrMine w2 B2 ws ∧ w.heap.size + 6 < B2) := by
    obtain ⟨p1, p2, p3, p4, p5⟩ := K1b.out
    exact ⟨p1.trans (hb2.mono p1.size), p3.keep hb2, p4.keep hb2, p5.keep hb2, hB2 ▸ hbm, hB2 ▸ p5.lt⟩
  rw [hB2]
  clear K1b hbm hb2 hB2 HCW
  have a0 := K2.out.2.2.1.c0
  have z0 := K2.out.2.1.c0
  have zf0 := K2.out.2.1.fr 0
  have a1 := K2.out.2.2.1.c1
  have z1 := K2.out.2.1.c1
  have zf1 := K2.out.2.1.fr 1
  have a2 := K2.out.2.2.1.c2
  have z2 := K2.out.2.1.c2
  have zf2 := K2.out.2.1.fr 2
  have a3 := K2.out.2.2.1.c3
  have z3 := K2.out.2.1.c3
  have zf3 := K2.out.2.1.fr 3
  have a4 := K2.out.2.2.1.c4
  have z4 := K2.out.2.1.c4
  have zf4 := K2.out.2.1.fr 4
  have a5 := K2.out.2.2.1.c5
  have z5 := K2.out.2.1.c5
  have zf5 := K2.out.2.1.fr 5
  have a6 := K2.out.2.2.1.c6
  have z6 := K2.out.2.1.c6
  have zf6 := K2.out.2.1.fr 6
  have a7 := K2.out.2.2.1.c7
  have z7 := K2.out.2.1.c7
  have zf7 := K2.out.2.1.fr 7
  have a8 := K2.out.2.2.1.c8
  have z8 := K2.out.2.1.c8
  have zf8 := K2.out.2.1.fr 8
  have a9 := K2.out.2.2.1.c9
  have z9 := K2.out.2.1.c9
  have zf9 := K2.out.2.1.fr 9
  have a10 := K2.out.2.2.1.c10
  have z10 := K2.out.2.1.c10
  have zf10 := K2.out.2.1.fr 10
  have af10 := K2.out.2.2.1.fr 10
  go_wp2_with fail
  obtain ⟨p1, p2, p3, p4, p5, p6⟩ := K2.out
  refine bodyPost_ret (v := .agg #[.int .i64 id, .string key, .bool bk, .bool ot, .int .i64 du, .bool dm, .string m, .string h, .string p, .slice (some ⟨w.heap.size + 6, 0, none⟩) hl hl, .slice (some ⟨B2, 0, none⟩) wn wn]) ?_ rfl ⟨⟨B2, rfl, (((((((((((p4.off1 _ (by omega)).off1 _ (by omega)).off1 _ (by omega)).off1 _ (by omega)).off1 _ (by omega)).off1 _ (by omega)).off1 _ (by omega)).off1 _ (by omega)).off1 _ (by omega)).off1 _ (by omega)).off1 _ (by omega)).off1 _ (by omega), (((((((((((p5.off1 _ (by omega)).off1 _ (by omega)).off1 _ (by omega)).off1 _ (by omega)).off1 _ (by omega)).off1 _ (by omega)).off1 _ (by omega)).off1 _ (by omega)).off1 _ (by omega)).off1 _ (by omega)).off1 _ (by omega)).off1 _ (by omega), p6⟩, (((((((((((p1.setCell (by simp only; omega) _).setCell (by simp only; omega) _).setCell (by simp only; omega) _).setCell (by simp only; omega) _).setCell (by simp only; omega) _).setCell (by simp only; omega) _).setCell (by simp only; omega) _).setCell (by simp only; omega) _).setCell (by simp only; omega) _).setCell (by simp only; omega) _).setCell (by simp only; omega) _).setCell (by simp only; omega) _⟩
  simp [results, Tryz.results30, go_sem, z0, z1, z2, z3, z4, z5, z6, z7, z8, z9, z10]
end Go.Proofs.YtgejegmilkmiiaaGreatDoor
/-
  Lists of flights, copied by the laws.
-/
namespace Go.Proofs.YtgejegmilkmiiaaGreatDoor
open Go.ChangeShapes Go.WideShapes Go.ChangeAt Go.RowKit Go.Sort
def blkF : Option Addr → Nat
  | some a => a.block
  | none => 0
def mkFR (x : Fl) (B1 B2 : Nat) : FlR := ⟨some ⟨B1, 0, none⟩, x.hs.length, some ⟨B2, 0, none⟩, x.ws.length⟩
/-- A flight whose lists are its own. -/
def FlOwn (W : World) (x : Fl) (r : FlR) : Prop := ∃ B1 B2, r = mkFR x B1 B2 ∧ QMine W B1 x.hs ∧ WrMine W B2 x.ws ∧ B1 < B2
theorem FlOwn.keep {W W' : World} {x : Fl} {r : FlR} (h : FlOwn W x r) (hb : Below W.heap.size W W') : FlOwn W' x r := by
  obtain ⟨B1, B2, e, h1, h2, h4⟩ := h
  exact ⟨B1, B2, e, h1.keep hb, h2.keep hb, h4⟩
theorem FlOwn.in {W : World} {x : Fl} {r : FlR} (h : FlOwn W x r) : FlIn W x r := by
  obtain ⟨B1, B2, rfl, h1, h2, h4⟩ := h
  exact ⟨.inr ⟨_, _, rfl, h1.at0⟩, h2.in, Nat.le_refl _, Nat.le_refl _⟩
theorem FlOwn.lt {W : World} {x : Fl} {r : FlR} (h : FlOwn W x r) : blkF r.wa < W.heap.size := by
  obtain ⟨B1, B2, rfl, h1, h2, h4⟩ := h
  exact h2.lt
theorem FlOwn.off1 {W : World} {x : Fl} {r : FlR} (h : FlOwn W x r) {b i : Nat} (v : Value) (hne : b < blkF r.ha) : FlOwn (W.setCell ⟨b, i, none⟩ v) x r := by
  obtain ⟨B1, B2, rfl, h1, h2, h4⟩ := h
  have q : b < B1 := hne
  exact ⟨B1, B2, rfl, h1.off1 v (by omega), h2.off1 v (by omega), h4⟩
/-- A list of flights that is its holder's own. -/
structure FlsMine (W : World) (G : Nat) (l : List (Fl × FlR)) : Prop where
  cell : ∀ (i : Nat) q, l[i]? = some q → ∀ j, j < 11 → W.cell? ⟨G, i * 11 + j, none⟩ = (flW q.1 q.2)[j]?
  free : ∀ o, W.frozen? ⟨G, o, none⟩ = false
  lt : G < W.heap.size
  own : ∀ q ∈ l, FlOwn W q.1 q.2
  up : ∀ q ∈ l, G < blkF q.2.ha
  pw : l.Pairwise (fun q q' => blkF q.2.wa < blkF q'.2.ha)
theorem FlsMine.keep {W W' : World} {G : Nat} {l : List (Fl × FlR)} (h : FlsMine W G l) (hb : Below W.heap.size W W') : FlsMine W' G l :=
  ⟨fun i q hq j hj => by rw [hb.cell (p := ⟨G, i * 11 + j, none⟩) h.lt]; exact h.cell i q hq j hj, fun o => by rw [hb.frozen (p := ⟨G, o, none⟩) h.lt]; exact h.free o, Nat.lt_of_lt_of_le h.lt hb.size, fun q hq => (h.own q hq).keep hb, h.up, h.pw⟩
theorem FlsMine.at0 {W : World} {G : Nat} {l : List (Fl × FlR)} (h : FlsMine W G l) : FlsAt W G 0 l := fun i q hq => ⟨fun j hj => by rw [Nat.zero_add]; exact h.cell i q hq j hj, (h.own q (List.mem_of_getElem? hq)).in⟩
theorem FlsMine.in {W : World} {G : Nat} {l : List (Fl × FlR)} (h : FlsMine W G l) : FlsIn W (some ⟨G, 0, none⟩) l := .inr ⟨G, 0, rfl, h.at0⟩
def put11 (X : World) (G k : Nat) (x0 x1 x2 x3 x4 x5 x6 x7 x8 x9 x10 : Value) : World := (((((((((((X.setCell ⟨G, k * 11, none⟩ x0).setCell ⟨G, k * 11 + 1, none⟩ x1).setCell ⟨G, k * 11 + 2, none⟩ x2).setCell ⟨G, k * 11 + 3, none⟩ x3).setCell ⟨G, k * 11 + 4, none⟩ x4).setCell ⟨G, k * 11 + 5, none⟩ x5).setCell ⟨G, k * 11 + 6, none⟩ x6).setCell ⟨G, k * 11 + 7, none⟩ x7).setCell ⟨G, k * 11 + 8, none⟩ x8).setCell ⟨G, k * 11 + 9, none⟩ x9).setCell ⟨G, k * 11 + 10, none⟩ x10)
theorem put11_other (X : World) (G k : Nat) (x0 x1 x2 x3 x4 x5 x6 x7 x8 x9 x10 : Value) (i : Nat) (hi : i < k * 11 ∨ k * 11 + 11 ≤ i) : (put11 X G k x0 x1 x2 x3 x4 x5 x6 x7 x8 x9 x10).cell? ⟨G, i, none⟩ = X.cell? ⟨G, i, none⟩ := by
  unfold put11
  rw [World.cell?_setCell_other _ _ _ _ (hoff_ne (by omega)), World.cell?_setCell_other _ _ _ _ (hoff_ne (by omega)), World.cell?_setCell_other _ _ _ _ (hoff_ne (by omega)), World.cell?_setCell_other _ _ _ _ (hoff_ne (by omega)), World.cell?_setCell_other _ _ _ _ (hoff_ne (by omega)), World.cell?_setCell_other _ _ _ _ (hoff_ne (by omega)), World.cell?_setCell_other _ _ _ _ (hoff_ne (by omega)), World.cell?_setCell_other _ _ _ _ (hoff_ne (by omega)), World.cell?_setCell_other _ _ _ _ (hoff_ne (by omega)), World.cell?_setCell_other _ _ _ _ (hoff_ne (by omega)), World.cell?_setCell_other _ _ _ _ (hoff_ne (by omega))]
theorem put11_room {X : World} {G n : Nat} (k : Nat) (x0 x1 x2 x3 x4 x5 x6 x7 x8 x9 x10 : Value) (h : HRoom X G n) : HRoom (put11 X G k x0 x1 x2 x3 x4 x5 x6 x7 x8 x9 x10) G n := (((((((((((h.set _ _).set _ _).set _ _).set _ _).set _ _).set _ _).set _ _).set _ _).set _ _).set _ _).set _ _)
theorem put11_free (X : World) (G k : Nat) (x0 x1 x2 x3 x4 x5 x6 x7 x8 x9 x10 : Value) (p : Addr) : (put11 X G k x0 x1 x2 x3 x4 x5 x6 x7 x8 x9 x10).frozen? p = X.frozen? p := by
  unfold put11
  rw [World.frozen?_setCell, World.frozen?_setCell, World.frozen?_setCell, World.frozen?_setCell, World.frozen?_setCell, World.frozen?_setCell, World.frozen?_setCell, World.frozen?_setCell, World.frozen?_setCell, World.frozen?_setCell, World.frozen?_setCell]
theorem put11_size (X : World) (G k : Nat) (x0 x1 x2 x3 x4 x5 x6 x7 x8 x9 x10 : Value) : (put11 X G k x0 x1 x2 x3 x4 x5 x6 x7 x8 x9 x10).heap.size = X.heap.size := by
  unfold put11
  simp
theorem put11_below {w X : World} {n G : Nat} (k : Nat) (x0 x1 x2 x3 x4 x5 x6 x7 x8 x9 x10 : Value) (h : Below n w X) (hn : n ≤ G) : Below n w (put11 X G k x0 x1 x2 x3 x4 x5 x6 x7 x8 x9 x10) := (((((((((((h.setCell hn _).setCell hn _).setCell hn _).setCell hn _).setCell hn _).setCell hn _).setCell hn _).setCell hn _).setCell hn _).setCell hn _).setCell hn _)
theorem put11_cells {X : World} {G n : Nat} (k : Nat) (x0 x1 x2 x3 x4 x5 x6 x7 x8 x9 x10 : Value) (h : HRoom X G n) (hk : k * 11 + 11 ≤ n) : (put11 X G k x0 x1 x2 x3 x4 x5 x6 x7 x8 x9 x10).cell? ⟨G, k * 11, none⟩ = some x0 ∧ (put11 X G k x0 x1 x2 x3 x4 x5 x6 x7 x8 x9 x10).cell? ⟨G, k * 11 + 1, none⟩ = some x1 ∧ (put11 X G k x0 x1 x2 x3 x4 x5 x6 x7 x8 x9 x10).cell? ⟨G, k * 11 + 2, none⟩ = some x2 ∧ (put11 X G k x0 x1 x2 x3 x4 x5 x6 x7 x8 x9 x10).cell? ⟨G, k * 11 + 3, none⟩ = some x3 ∧ (put11 X G k x0 x1 x2 x3 x4 x5 x6 x7 x8 x9 x10).cell? ⟨G, k * 11 + 4, none⟩ = some x4 ∧ (put11 X G k x0 x1 x2 x3 x4 x5 x6 x7 x8 x9 x10).cell? ⟨G, k * 11 + 5, none⟩ = some x5 ∧ (put11 X G k x0 x1 x2 x3 x4 x5 x6 x7 x8 x9 x10).cell? ⟨G, k * 11 + 6, none⟩ = some x6 ∧ (put11 X G k x0 x1 x2 x3 x4 x5 x6 x7 x8 x9 x10).cell? ⟨G, k * 11 + 7, none⟩ = some x7 ∧ (put11 X G k x0 x1 x2 x3 x4 x5 x6 x7 x8 x9 x10).cell? ⟨G, k * 11 + 8, none⟩ = some x8 ∧ (put11 X G k x0 x1 x2 x3 x4 x5 x6 x7 x8 x9 x10).cell? ⟨G, k * 11 + 9, none⟩ = some x9 ∧ (put11 X G k x0 x1 x2 x3 x4 x5 x6 x7 x8 x9 x10).cell? ⟨G, k * 11 + 10, none⟩ = some x10 := by
  refine ⟨?_, ?_, ?_, ?_, ?_, ?_, ?_, ?_, ?_, ?_, ?_⟩
  · obtain ⟨⟨u, g⟩, _⟩ := h (k * 11) (by omega)
    unfold put11
    rw [World.cell?_setCell_other _ _ _ _ (hoff_ne (by omega)), World.cell?_setCell_other _ _ _ _ (hoff_ne (by omega)), World.cell?_setCell_other _ _ _ _ (hoff_ne (by omega)), World.cell?_setCell_other _ _ _ _ (hoff_ne (by omega)), World.cell?_setCell_other _ _ _ _ (hoff_ne (by omega)), World.cell?_setCell_other _ _ _ _ (hoff_ne (by omega)), World.cell?_setCell_other _ _ _ _ (hoff_ne (by omega)), World.cell?_setCell_other _ _ _ _ (hoff_ne (by omega)), World.cell?_setCell_other _ _ _ _ (hoff_ne (by omega)), World.cell?_setCell_other _ _ _ _ (hoff_ne (by omega))]
    exact World.cell?_setCell_same _ _ _ g
  · obtain ⟨⟨u, g⟩, _⟩ := (h.set ⟨G, k * 11, none⟩ x0) (k * 11 + 1) (by omega)
    unfold put11
    rw [World.cell?_setCell_other _ _ _ _ (hoff_ne (by omega)), World.cell?_setCell_other _ _ _ _ (hoff_ne (by omega)), World.cell?_setCell_other _ _ _ _ (hoff_ne (by omega)), World.cell?_setCell_other _ _ _ _ (hoff_ne (by omega)), World.cell?_setCell_other _ _ _ _ (hoff_ne (by omega)), World.cell?_setCell_other _ _ _ _ (hoff_ne (by omega)), World.cell?_setCell_other _ _ _ _ (hoff_ne (by omega)), World.cell?_setCell_other _ _ _ _ (hoff_ne (by omega)), World.cell?_setCell_other _ _ _ _ (hoff_ne (by omega))]
    exact World.cell?_setCell_same _ _ _ g
  · obtain ⟨⟨u, g⟩, _⟩ := ((h.set ⟨G, k * 11, none⟩ x0).set ⟨G, k * 11 + 1, none⟩ x1) (k * 11 + 2) (by omega)
    unfold put11
    rw [World.cell?_setCell_other _ _ _ _ (hoff_ne (by omega)), World.cell?_setCell_other _ _ _ _ (hoff_ne (by omega)), World.cell?_setCell_other _ _ _ _ (hoff_ne (by omega)), World.cell?_setCell_other _ _ _ _ (hoff_ne (by omega)), World.cell?_setCell_other _ _ _ _ (hoff_ne (by omega)), World.cell?_setCell_other _ _ _ _ (hoff_ne (by omega)), World.cell?_setCell_other _ _ _ _ (hoff_ne (by omega)), World.cell?_setCell_other _ _ _ _ (hoff_ne (by omega))]
    exact World.cell?_setCell_same _ _ _ g
  · obtain ⟨⟨u, g⟩, _⟩ := (((h.set ⟨G, k * 11, none⟩ x0).set ⟨G, k * 11 + 1, none⟩ x1).set ⟨G, k * 11 + 2, none⟩ x2) (k * 11 + 3) (by omega)
    unfold put11
    rw [World.cell?_setCell_other _ _ _ _ (hoff_ne (by omega)), World.cell?_setCell_other _ _ _ _ (hoff_ne (by omega)), World.cell?_setCell_other _ _ _ _ (hoff_ne (by omega)), World.cell?_setCell_other _ _ _ _ (hoff_ne (by omega)), World.cell?_setCell_other _ _ _ _ (hoff_ne (by omega)), World.cell?_setCell_other _ _ _ _ (hoff_ne (by omega)), World.cell?_setCell_other _ _ _ _ (hoff_ne (by omega))]
    exact World.cell?_setCell_same _ _ _ g
  · obtain ⟨⟨u, g⟩, _⟩ := ((((h.set ⟨G, k * 11, none⟩ x0).set ⟨G, k * 11 + 1, none⟩ x1).set ⟨G, k * 11 + 2, none⟩ x2).set ⟨G, k * 11 + 3, none⟩ x3) (k * 11 + 4) (by omega)
    unfold put11
    rw [World.cell?_setCell_other _ _ _ _ (hoff_ne (by omega)), World.cell?_setCell_other _ _ _ _ (hoff_ne (by omega)), World.cell?_setCell_other _ _ _ _ (hoff_ne (by omega)), World.cell?_setCell_other _ _ _ _ (hoff_ne (by omega)), World.cell?_setCell_other _ _ _ _ (hoff_ne (by omega)), World.cell?_setCell_other _ _ _ _ (hoff_ne (by omega))]
    exact World.cell?_setCell_same _ _ _ g
  · obtain ⟨⟨u, g⟩, _⟩ := (((((h.set ⟨G, k * 11, none⟩ x0).set ⟨G, k * 11 + 1, none⟩ x1).set ⟨G, k * 11 + 2, none⟩ x2).set ⟨G, k * 11 + 3, none⟩ x3).set ⟨G, k * 11 + 4, none⟩ x4) (k * 11 + 5) (by omega)
    unfold put11
    rw [World.cell?_setCell_other _ _ _ _ (hoff_ne (by omega)), World.cell?_setCell_other _ _ _ _ (hoff_ne (by omega)), World.cell?_setCell_other _ _ _ _ (hoff_ne (by omega)), World.cell?_setCell_other _ _ _ _ (hoff_ne (by omega)), World.cell?_setCell_other _ _ _ _ (hoff_ne (by omega))]
    exact World.cell?_setCell_same _ _ _ g
  · obtain ⟨⟨u, g⟩, _⟩ := ((((((h.set ⟨G, k * 11, none⟩ x0).set ⟨G, k * 11 + 1, none⟩ x1).set ⟨G, k * 11 + 2, none⟩ x2).set ⟨G, k * 11 + 3, none⟩ x3).set ⟨G, k * 11 + 4, none⟩ x4).set ⟨G, k * 11 + 5, none⟩ x5) (k * 11 + 6) (by omega)
    unfold put11
    rw [World.cell?_setCell_other _ _ _ _ (hoff_ne (by omega)), World.cell?_setCell_other _ _ _ _ (hoff_ne (by omega)), World.cell?_setCell_other _ _ _ _ (hoff_ne (by omega)), World.cell?_setCell_other _ _ _ _ (hoff_ne (by omega))]
    exact World.cell?_setCell_same _ _ _ g
  · obtain ⟨⟨u, g⟩, _⟩ := (((((((h.set ⟨G, k * 11, none⟩ x0).set ⟨G, k * 11 + 1, none⟩ x1).set ⟨G, k * 11 + 2, none⟩ x2).set ⟨G, k * 11 + 3, none⟩ x3).set ⟨G, k * 11 + 4, none⟩ x4).set ⟨G, k * 11 + 5, none⟩ x5).set ⟨G, k * 11 + 6, none⟩ x6) (k * 11 + 7) (by omega)
    unfold put11
    rw [World.cell?_setCell_other _ _ _ _ (hoff_ne (by omega)), World.cell?_setCell_other _ _ _ _ (hoff_ne (by omega)), World.cell?_setCell_other _ _ _ _ (hoff_ne (by omega))]
    exact World.cell?_setCell_same _ _ _ g
  · obtain ⟨⟨u, g⟩, _⟩ := ((((((((h.set ⟨G, k * 11, none⟩ x0).set ⟨G, k * 11 + 1, none⟩ x1).set ⟨G, k * 11 + 2, none⟩ x2).set ⟨G, k * 11 + 3, none⟩ x3).set ⟨G, k * 11 + 4, none⟩ x4).set ⟨G, k * 11 + 5, none⟩ x5).set ⟨G, k * 11 + 6, none⟩ x6).set ⟨G, k * 11 + 7, none⟩ x7) (k * 11 + 8) (by omega)
    unfold put11
    rw [World.cell?_setCell_other _ _ _ _ (hoff_ne (by omega)), World.cell?_setCell_other _ _ _ _ (hoff_ne (by omega))]
    exact World.cell?_setCell_same _ _ _ g
  · obtain ⟨⟨u, g⟩, _⟩ := (((((((((h.set ⟨G, k * 11, none⟩ x0).set ⟨G, k * 11 + 1, none⟩ x1).set ⟨G, k * 11 + 2, none⟩ x2).set ⟨G, k * 11 + 3, none⟩ x3).set ⟨G, k * 11 + 4, none⟩ x4).set ⟨G, k * 11 + 5, none⟩ x5).set ⟨G, k * 11 + 6, none⟩ x6).set ⟨G, k * 11 + 7, none⟩ x7).set ⟨G, k * 11 + 8, none⟩ x8) (k * 11 + 9) (by omega)
    unfold put11
    rw [World.cell?_setCell_other _ _ _ _ (hoff_ne (by omega))]
    exact World.cell?_setCell_same _ _ _ g
  · obtain ⟨⟨u, g⟩, _⟩ := ((((((((((h.set ⟨G, k * 11, none⟩ x0).set ⟨G, k * 11 + 1, none⟩ x1).set ⟨G, k * 11 + 2, none⟩ x2).set ⟨G, k * 11 + 3, none⟩ x3).set ⟨G, k * 11 + 4, none⟩ x4).set ⟨G, k * 11 + 5, none⟩ x5).set ⟨G, k * 11 + 6, none⟩ x6).set ⟨G, k * 11 + 7, none⟩ x7).set ⟨G, k * 11 + 8, none⟩ x8).set ⟨G, k * 11 + 9, none⟩ x9) (k * 11 + 10) (by omega)
    unfold put11
    exact World.cell?_setCell_same _ _ _ g
def putF (X : World) (G k : Nat) (x : Fl) (r : FlR) : World := put11 X G k (.int .i64 x.id) (.string x.key) (.bool x.bk) (.bool x.ot) (.int .i64 x.du) (.bool x.dm) (.string x.m) (.string x.h) (.string x.p) (.slice r.ha x.hs.length r.hc) (.slice r.wa x.ws.length r.wc)
theorem putF_own {X : World} {G k : Nat} {y : Fl} {s : FlR} (x : Fl) (r : FlR) (hk : FlOwn X y s) (h : G < blkF s.ha) : FlOwn (putF X G k x r) y s := (((((((((((hk.off1 _ h).off1 _ h).off1 _ h).off1 _ h).off1 _ h).off1 _ h).off1 _ h).off1 _ h).off1 _ h).off1 _ h).off1 _ h)
theorem FlsMine.put {W : World} {G n : Nat} {l : List (Fl × FlR)} (h : FlsMine W G l) (x : Fl) (r : FlR) (hm : HRoom W G n) (hn : l.length * 11 + 11 ≤ n) (ho : FlOwn W x r) (hu : G < blkF r.ha) (hp : ∀ q ∈ l, blkF q.2.wa < blkF r.ha) : FlsMine (putF W G l.length x r) G (l ++ [(x, r)]) := by
  refine ⟨?_, fun o => ?_, ?_, ?_, ?_, ?_⟩
  · intro i q hq j hj
    have hi : i < l.length + 1 := by have := (List.getElem?_eq_some_iff.1 hq).1; simpa using this
    by_cases e : i = l.length
    · subst e
      rw [List.getElem?_append_right (Nat.le_refl _), Nat.sub_self] at hq
      obtain rfl := Option.some.inj hq
      have c := put11_cells l.length (.int .i64 x.id) (.string x.key) (.bool x.bk) (.bool x.ot) (.int .i64 x.du) (.bool x.dm) (.string x.m) (.string x.h) (.string x.p) (.slice r.ha x.hs.length r.hc) (.slice r.wa x.ws.length r.wc) hm hn
      match j, hj with
      | 0, _ => exact c.1
      | 1, _ => exact c.2.1
      | 2, _ => exact c.2.2.1
      | 3, _ => exact c.2.2.2.1
      | 4, _ => exact c.2.2.2.2.1
      | 5, _ => exact c.2.2.2.2.2.1
      | 6, _ => exact c.2.2.2.2.2.2.1
      | 7, _ => exact c.2.2.2.2.2.2.2.1
      | 8, _ => exact c.2.2.2.2.2.2.2.2.1
      | 9, _ => exact c.2.2.2.2.2.2.2.2.2.1
      | 10, _ => exact c.2.2.2.2.2.2.2.2.2.2
    · rw [List.getElem?_append_left (by omega)] at hq
      have c := h.cell i q hq j hj
      unfold putF
      rw [put11_other _ _ _ _ _ _ _ _ _ _ _ _ _ _ _ (by omega)]
      exact c
  · unfold putF; rw [put11_free]; exact h.free o
  · unfold putF; rw [put11_size]; exact h.lt
  · intro q hq
    rcases List.mem_append.1 hq with hq | hq
    · exact putF_own _ _ (h.own q hq) (h.up q hq)
    · obtain rfl := List.mem_singleton.1 hq
      exact putF_own _ _ ho hu
  · intro q hq
    rcases List.mem_append.1 hq with hq | hq
    · exact h.up q hq
    · obtain rfl := List.mem_singleton.1 hq
      exact hu
  · refine List.pairwise_append.2 ⟨h.pw, List.pairwise_singleton _ _, fun q hq q' hq' => ?_⟩
    obtain rfl := List.mem_singleton.1 hq'
    exact hp q hq
theorem toFlight_q (w : World) (q : Fl × FlR) (h1 : q.1.hs.length ≤ 1048576) (h2 : q.1.ws.length ≤ 1048576) (hi : FlIn w q.1 q.2) :
    Calls Tryz.prog 30 #[.agg #[.int .i64 q.1.id, .string q.1.key, .bool q.1.bk, .bool q.1.ot, .int .i64 q.1.du, .bool q.1.dm, .string q.1.m, .string q.1.h, .string q.1.p, .slice q.2.ha q.1.hs.length q.2.hc, .slice q.2.wa q.1.ws.length q.2.wc]] w fun e w' => (∃ r, e = .returned (flV q.1 r) ∧ FlOwn w' q.1 r ∧ w.heap.size < blkF r.ha) ∧ Below w.heap.size w w' := by
  refine (toFlight_any w _ _ _ _ _ _ _ _ _ _ _ _ _ _ _ h1 h2 hi.h hi.k).mono ?_
  rintro ee w' ⟨⟨B2, rfl, a, b, d⟩, hb⟩
  exact ⟨⟨mkFR q.1 (w.heap.size + 6) B2, rfl, ⟨_, B2, rfl, a, b, d⟩, by show w.heap.size < w.heap.size + 6; omega⟩, hb⟩
theorem infoFlight : (Tryz.prog.info? 29).map (fun i => (i.zero, i.size, i.bytes)) = some (some (.agg #[.int .i64 0, .string ⟨#[]⟩, .bool false, .bool false, .int .i64 0, .bool false, .string ⟨#[]⟩, .string ⟨#[]⟩, .string ⟨#[]⟩, .slice none 0 0, .slice none 0 0]), 11, 144) := by kernel_rfl
set_option maxHeartbeats 8000000 in
theorem toFlightS_any (w : World) (a : Option Addr) (cap : Nat) (l : List (Fl × FlR)) (hl : l.length ≤ 1048576) (hi : FlsIn w a l) (hf : ∀ q ∈ l, FlFit q.1) :
    Calls Tryz.prog 33 #[.slice a l.length cap] w fun e w' => e = .returned (.slice (some ⟨w.heap.size, 0, none⟩) l.length l.length) ∧ (∃ l', l'.map Prod.fst = l.map Prod.fst ∧ FlsMine w' w.heap.size l') ∧ Below w.heap.size w w' := by
  have HI : Hid (FlsIn w a l) := hi
  have HFT : Hid (∀ q ∈ l, FlFit q.1) := hf
  obtain ⟨i0, hi0, hz0, hz1, hz2⟩ := info_parts infoFlight
  clear hi hf
  generalize hn : l.length = n at *
  have HN : Hid (l.length = n) := hn
  clear hn
  go_enter Tryz.func33, Tryz.ntmps33
  go_wp2_with (at_make; refine wpList_make_full w rfl _ _ 43 rfl w.heap.size 29 i0 _ 11 Tryz.underlying43 hi0 hz0 hz1 _ _ _ _ n rfl rfl rfl rfl (by rw [hz2]; omega) (by unfold maxLen; omega) (Nat.le_refl _) ?_; intro w1 hown hgrow)
  have HR1 : Hid (HRoom w1 w.heap.size (n * 11) ∧ FlsMine w1 w.heap.size [] ∧ Below w.heap.size w w1) := by
    refine ⟨fun j hj => ⟨?_, hown.frozenAt j⟩, ⟨fun i q hq => by simp at hq, fun o => hown.frozenAt o, ?lt, fun q hq => by simp at hq, fun q hq => by simp at hq, List.Pairwise.nil⟩, (Below.refl _ _).grown hgrow (Nat.le_refl _) (fun q hq => by cases hq)⟩
    case lt =>
      obtain ⟨_, h | ⟨g, c, cur, e, _, hh, _⟩⟩ := hown
      · cases h.1
      · simp only [Value.slice.injEq, Option.some.injEq] at e
        have e1 := congrArg Addr.block e.1
        simp only at e1
        rw [e1]
        exact (Array.getElem?_eq_some_iff.1 hh).1
    have h1 := hown.cellAt j hj
    have h2 : j < (madeCells (Value.agg #[.int .i64 0, .string ⟨#[]⟩, .bool false, .bool false, .int .i64 0, .bool false, .string ⟨#[]⟩, .string ⟨#[]⟩, .string ⟨#[]⟩, .slice none 0 0, .slice none 0 0]).cells (n * 11)).toList.length := by have := hown.1; omega
    exact ⟨_, h1.trans (List.getElem?_eq_getElem h2)⟩
  clear hown hgrow
  go_loopw [4] (fun i wr => ∃ (k : Nat) (l' : List (Fl × FlR)), k ≤ n ∧ i = .int .i64 k ∧ l'.length = k ∧ l'.map Prod.fst = (l.map Prod.fst).take k ∧ FlsMine wr w.heap.size l' ∧ HRoom wr w.heap.size (n * 11) ∧ Below w.heap.size w wr) (fun i _ => n - (intOf i).toNat)
  case atStart => exact ⟨0, [], Nat.zero_le _, rfl, rfl, by simp, HR1.out.2.1, HR1.out.1, HR1.out.2.2⟩
  case round =>
    obtain ⟨k, l', hk, rfl, hlen, hmap, hmine, hroom, hb⟩ := hrel
    have HL : Hid (l'.length = k) := hlen
    have HMP : Hid (l'.map Prod.fst = (l.map Prod.fst).take k) := hmap
    clear HR1 hlen hmap
    by_cases hlt : k < n
    · obtain ⟨q, hr⟩ : ∃ r, l[k]? = some r := ⟨l[k]'(by have := HN.out; omega), List.getElem?_eq_getElem _⟩
      rcases HI.out with h | ⟨b, off, rfl, hat⟩
      · subst h; simp at hr
      have PC := (hat.keep hb).cells hr
      have ft := HFT.out q (List.mem_of_getElem? hr)
      have C : Hid (Calls Tryz.prog 30 #[.agg #[.int .i64 q.1.id, .string q.1.key, .bool q.1.bk, .bool q.1.ot, .int .i64 q.1.du, .bool q.1.dm, .string q.1.m, .string q.1.h, .string q.1.p, .slice q.2.ha q.1.hs.length q.2.hc, .slice q.2.wa q.1.ws.length q.2.wc]] wr fun ee w' => (∃ r, ee = .returned (flV q.1 r) ∧ FlOwn w' q.1 r ∧ wr.heap.size < blkF r.ha) ∧ Below wr.heap.size wr w') := toFlight_q wr q ft.h ft.w ((hat.keep hb).in hr)
      have HMP2 : Hid (∀ r, (l' ++ [(q.1, r)]).map Prod.fst = (l.map Prod.fst).take (k + 1)) := by
        intro r
        obtain ⟨hk2, hr2⟩ := List.getElem?_eq_some_iff.1 hr
        rw [List.map_append, HMP.out, List.take_succ_eq_append_getElem (by simpa using hk2)]
        simp [hr2]
      have HA : Hid (FlsMine wr w.heap.size l') := hmine
      have HM : Hid (HRoom wr w.heap.size (n * 11)) := hroom
      have HB : Hid (Below w.heap.size w wr) := hb
      have g : (k : Int) < n := by omega
      clear hmine hroom hr hat HI hb ft HFT HMP
      have p0 := PC.1
      have p1 := PC.2.1
      have p2 := PC.2.2.1
      have p3 := PC.2.2.2.1
      have p4 := PC.2.2.2.2.1
      have p5 := PC.2.2.2.2.2.1
      have p6 := PC.2.2.2.2.2.2.1
      have p7 := PC.2.2.2.2.2.2.2.1
      have p8 := PC.2.2.2.2.2.2.2.2.1
      have p9 := PC.2.2.2.2.2.2.2.2.2.1
      have p10 := PC.2.2.2.2.2.2.2.2.2.2
      clear PC
      obtain ⟨x, r0⟩ := q
      simp only at p0 p1 p2 p3 p4 p5 p6 p7 p8 p9 p10 C HMP2
      go_wp2_with fail
      refine C.out.mono ?_
      rintro e w2 ⟨⟨r, rfl, ho, hu⟩, hb2⟩
      have hm2 := HM.out.keep hb2
      have hsz : w.heap.size < wr.heap.size := HA.out.lt
      have HP : Hid (FlsMine (putF w2 w.heap.size k x r) w.heap.size (l' ++ [(x, r)]) ∧ HRoom (putF w2 w.heap.size k x r) w.heap.size (n * 11) ∧ Below w.heap.size w (putF w2 w.heap.size k x r)) := by
        have hbb := HB.out.trans (hb2.mono HB.out.size)
        refine ⟨?_, put11_room _ _ _ _ _ _ _ _ _ _ _ _ hm2, put11_below _ _ _ _ _ _ _ _ _ _ _ _ hbb (Nat.le_refl _)⟩
        have hL := HL.out
        have z := (HA.out.keep hb2).put x r hm2 (by rw [hL]; omega) ho (by omega) (fun q hq => Nat.lt_trans ((HA.out.own q hq).lt) hu)
        rw [hL] at z
        exact z
      obtain ⟨⟨u0, g0⟩, f0⟩ := hm2 (k * 11) (by omega)
      obtain ⟨⟨u1, g1⟩, f1⟩ := hm2 (k * 11 + 1) (by omega)
      obtain ⟨⟨u2, g2⟩, f2⟩ := hm2 (k * 11 + 2) (by omega)
      obtain ⟨⟨u3, g3⟩, f3⟩ := hm2 (k * 11 + 3) (by omega)
      obtain ⟨⟨u4, g4⟩, f4⟩ := hm2 (k * 11 + 4) (by omega)
      obtain ⟨⟨u5, g5⟩, f5⟩ := hm2 (k * 11 + 5) (by omega)
      obtain ⟨⟨u6, g6⟩, f6⟩ := hm2 (k * 11 + 6) (by omega)
      obtain ⟨⟨u7, g7⟩, f7⟩ := hm2 (k * 11 + 7) (by omega)
      obtain ⟨⟨u8, g8⟩, f8⟩ := hm2 (k * 11 + 8) (by omega)
      obtain ⟨⟨u9, g9⟩, f9⟩ := hm2 (k * 11 + 9) (by omega)
      obtain ⟨⟨u10, g10⟩, f10⟩ := hm2 (k * 11 + 10) (by omega)
      have HL2 : Hid ((l' ++ [(x, r)]).length = k + 1) := by show _ = _; rw [List.length_append, HL.out]; rfl
      clear HA HM hb2 HB p0 p1 p2 p3 p4 p5 p6 p7 p8 p9 p10 C hm2 HL ho hu
      unfold flV flW
      go_wp2_with fail
      go_roundw
      case rel => exact ⟨k + 1, l' ++ [(x, r)], by omega, by go_num, HL2.out, HMP2.out r, HP.out.1, HP.out.2.1, HP.out.2.2⟩
      case measure => simp [intOf]; omega
    · have HF : Hid (l'.map Prod.fst = l.map Prod.fst ∧ FlsMine wr w.heap.size l') := by
        have e : (l.map Prod.fst).take k = l.map Prod.fst := List.take_of_length_le (by have := HN.out; simp; omega)
        exact ⟨by rw [HMP.out, e], hmine⟩
      clear hmine hroom
      go_wp2_with fail
      go_ret
      exact ⟨rfl, ⟨l', HF.out.1, HF.out.2⟩, hb⟩
end Go.Proofs.YtgejegmilkmiiaaGreatDoor
/-
  What the model's slices.Equal over those who wait answers.
-/
namespace Go.Proofs.YtgejegmilkmiiaaGreatDoor
open Go.ChangeShapes Go.WideShapes Go.ChangeAt Go.RowKit Go.Sort
def sameR (x y : Wr) : Bool := (x.rq == y.rq) && (x.hd == y.hd) && (x.du == y.du) && (x.lt == y.lt)
def sameRs : List Wr → List Wr → Bool
  | [], [] => true
  | x :: l, y :: m => sameR x y && sameRs l m
  | _, _ => false
theorem guardWaiter (op : BinOp) (a b : Operand) (x y : Array Value) (w : World) : (eqGuard op 31 a b (.agg x) (.agg y)).run Tryz.prog w = .ok () w := run_eqGuard_agg w op 31 a b x y (by kernel_rfl)
theorem neqWaiter (x y : Wr) (w : World) : (binOp .neq 31 (.agg #[.int .i64 x.rq, .bool x.hd, .int .i64 x.du, .bool x.lt]) (.agg #[.int .i64 y.rq, .bool y.hd, .int .i64 y.du, .bool y.lt])).run Tryz.prog w = .ok (.bool (!sameR x y)) w := by
  have u9 := Tryz.underlying2
  have a9 := Tryz.isAgg2
  have z9 := Tryz.sizeOf2
  have u8 := Tryz.underlying4
  have a8 := Tryz.isAgg4
  have z8 := Tryz.sizeOf4
  have hS : Tryz.prog.underlying 31 = some (.struct (Tryz.prog.fieldsOf 31)) := by kernel_rfl
  have hp : Tryz.prog.stoodInHeld 31 = false := by kernel_rfl
  obtain ⟨n1, v1, m1, l1⟩ := x
  obtain ⟨n2, v2, m2, l2⟩ := y
  simp only [sameR]
  rw [run_neq_struct, show (10000 : Nat) = 9999 + 1 from rfl, run_equalIn_agg w 9999 31 _ _ hS hp]
  simp only [Program.fieldsOf, Tryz.underlying31]
  go_simp
  by_cases e1 : n1 = n2 <;> by_cases e3 : m1 = m2 <;> cases v1 <;> cases v2 <;> cases l1 <;> cases l2 <;> simp [e1, e3]
theorem sameRs_lens : ∀ (l m : List Wr), l.length ≠ m.length → sameRs l m = false
  | [], [], h => absurd rfl h
  | [], _ :: _, _ => rfl
  | _ :: _, [], _ => rfl
  | x :: l, y :: m, h => by
    rw [sameRs, sameRs_lens l m (by simpa using h), Bool.and_false]
theorem sameRs_drop {l m : List Wr} {k : Nat} {x y : Wr} (hx : l[k]? = some x) (hy : m[k]? = some y) : sameRs (l.drop k) (m.drop k) = (sameR x y && sameRs (l.drop (k + 1)) (m.drop (k + 1))) := by
  rw [dropWr l k x hx, dropWr m k y hy, sameRs]
set_option maxRecDepth 100000 in
set_option maxHeartbeats 4000000 in
theorem equalWaiters_any (w : World) (a b : Option Addr) (ca cb : Nat) (l m : List Wr) (hl : l.length ≤ 1048576) (h1 : WrIn w a l) (h2 : WrIn w b m) :
    Calls Tryz.prog 107 #[.slice a l.length ca, .slice b m.length cb] w fun e w' => e = .returned (.bool (sameRs l m)) ∧ Below w.heap.size w w' := by
  have H1 : Hid (WrIn w a l) := h1
  have H2 : Hid (WrIn w b m) := h2
  clear h1 h2
  by_cases hlen : l.length = m.length
  · have HM : Hid (m.length = l.length) := hlen.symm
    rw [← hlen]
    clear hlen
    generalize hn : l.length = n at *
    have HN : Hid (l.length = n) := hn
    clear hn
    go_enter Tryz.func107, Tryz.ntmps107
    go_wp2_with fail
    go_loopw [13] (fun i wr => ∃ k : Nat, k ≤ n ∧ i = .int .i64 k ∧ sameRs l m = sameRs (l.drop k) (m.drop k) ∧ Below w.heap.size w wr) (fun i _ => n - (intOf i).toNat)
    case atStart => exact ⟨0, Nat.zero_le _, rfl, rfl, Below.refl _ _⟩
    case round =>
      obtain ⟨k, hk, rfl, hs, hb⟩ := hrel
      have HS : Hid (sameRs l m = sameRs (l.drop k) (m.drop k)) := hs
      clear hs
      by_cases hlt : k < n
      · obtain ⟨x, hx⟩ : ∃ r, l[k]? = some r := ⟨l[k]'(by have := HN.out; omega), List.getElem?_eq_getElem _⟩
        obtain ⟨y, hy⟩ : ∃ r, m[k]? = some r := ⟨m[k]'(by have := HM.out; have := HN.out; omega), List.getElem?_eq_getElem _⟩
        rcases H1.out with h | ⟨b1, o1, rfl, at1⟩
        · subst h; simp at hx
        rcases H2.out with h | ⟨b2, o2, rfl, at2⟩
        · subst h; simp at hy
        obtain ⟨p0, p1, p2, p3⟩ := (at1.keep hb) k x hx
        obtain ⟨q0, q1, q2, q3⟩ := (at2.keep hb) k y hy
        have x0 := cell_regrown p0
        have x1 := cell_regrown p1
        have x2 := cell_regrown p2
        have x3 := cell_regrown p3
        have y0 := cell_regrown q0
        have y1 := cell_regrown q1
        have y2 := cell_regrown q2
        have y3 := cell_regrown q3
        have hne := neqWaiter x y
        have hgd := guardWaiter
        have HD : Hid (sameRs l m = (sameR x y && sameRs (l.drop (k + 1)) (m.drop (k + 1)))) := by show _ = _; rw [HS.out, sameRs_drop hx hy]
        have g0 : (0 : Int) ≤ k := by omega
        have g : (k : Int) < n := by omega
        clear hx hy p0 p1 p2 p3 q0 q1 q2 q3 at1 at2 HS
        generalize x.rq = xrq at *
        generalize x.hd = xhd at *
        generalize x.du = xdu at *
        generalize x.lt = xlt at *
        generalize y.rq = yrq at *
        generalize y.hd = yhd at *
        generalize y.du = ydu at *
        generalize y.lt = ylt at *
        cases hsame : sameR x y
        · rw [hsame] at hne
          have HE : Hid (sameRs l m = false) := by show _ = _; rw [HD.out, hsame, Bool.false_and]
          clear HD hsame
          simp only [Bool.not_false] at hne
          go_wp2_with fail
          refine wp_region_quiet_below (by kernel_rfl) (by kernel_rfl) ?_
          repeat (go_big_quiet_step (fail))
          refine wpQuiet_nil ?_
          intro w2 hw2
          have hbb : Below w.heap.size w w2 := by
            obtain ⟨⟨d, os⟩, rfl⟩ := hw2
            exact hb.trans ((below_regrown wr d os).mono hb.size)
          clear x0 x1 x2 x3 y0 y1 y2 y3 hne hgd hw2 hb
          go_wp2_with fail
          go_ret
          exact ⟨ret_bool HE.out.symm, hbb⟩
        · rw [hsame] at hne
          have HE : Hid (sameRs l m = sameRs (l.drop (k + 1)) (m.drop (k + 1))) := by show _ = _; rw [HD.out, hsame, Bool.true_and]
          clear HD hsame
          simp only [Bool.not_true] at hne
          go_wp2_with fail
          refine wp_region_quiet_below (by kernel_rfl) (by kernel_rfl) ?_
          repeat (go_big_quiet_step (fail))
          refine wpQuiet_nil ?_
          intro w2 hw2
          have hbb : Below w.heap.size w w2 := by
            obtain ⟨⟨d, os⟩, rfl⟩ := hw2
            exact hb.trans ((below_regrown wr d os).mono hb.size)
          clear x0 x1 x2 x3 y0 y1 y2 y3 hne hgd hw2 hb
          go_wp2_with fail
          go_roundw
          case rel => exact ⟨k + 1, by omega, by go_num, HE.out, hbb⟩
          case measure => simp [intOf]; omega
      · have HE : Hid (sameRs l m = true) := by
          show _ = _
          rw [HS.out, List.drop_of_length_le (by have := HN.out; omega), List.drop_of_length_le (by have := HM.out; have := HN.out; omega)]
          rfl
        clear HS
        go_wp2_with fail
        go_ret
        exact ⟨ret_bool HE.out.symm, hb⟩
  · have HE : Hid (sameRs l m = false) := sameRs_lens l m hlen
    have g : ¬ (l.length : Int) = (m.length : Int) := by omega
    have g2 : ((l.length : Int) != (m.length : Int)) = true := by simpa using g
    clear H1 H2
    generalize l.length = n at *
    generalize m.length = n2 at *
    go_enter Tryz.func107, Tryz.ntmps107
    go_wp2_with fail
    go_ret
    exact ⟨ret_bool HE.out.symm, Below.refl _ _⟩
end Go.Proofs.YtgejegmilkmiiaaGreatDoor
/-
  What the model's SameHeaders and slices.Equal over head lines answer.
-/
namespace Go.Proofs.YtgejegmilkmiiaaGreatDoor
open Go.ChangeShapes Go.WideShapes Go.ChangeAt Go.RowKit Go.Sort
def sameH (x y : Hdr) : Bool := (x.name.toList == y.name.toList) && (x.value.toList == y.value.toList)
def sameHs : List Hdr → List Hdr → Bool
  | [], [] => true
  | x :: l, y :: m => sameH x y && sameHs l m
  | _, _ => false
theorem guardHeader (op : BinOp) (a b : Operand) (x y : Array Value) (w : World) : (eqGuard op 158 a b (.agg x) (.agg y)).run Tryz.prog w = .ok () w := run_eqGuard_agg w op 158 a b x y (by kernel_rfl)
theorem neqHeader (x y : Hdr) (w : World) : (binOp .neq 158 (.agg #[.string x.name, .string x.value]) (.agg #[.string y.name, .string y.value])).run Tryz.prog w = .ok (.bool (!sameH x y)) w := by
  have u9 := Tryz.underlying9
  have a9 := Tryz.isAgg9
  have z9 := Tryz.sizeOf9
  have hS : Tryz.prog.underlying 158 = some (.struct (Tryz.prog.fieldsOf 158)) := by kernel_rfl
  have hp : Tryz.prog.stoodInHeld 158 = false := by kernel_rfl
  obtain ⟨n1, v1⟩ := x
  obtain ⟨n2, v2⟩ := y
  simp only [sameH]
  rw [run_neq_struct, show (10000 : Nat) = 9999 + 1 from rfl, run_equalIn_agg w 9999 158 _ _ hS hp]
  simp only [Program.fieldsOf, Tryz.underlying158]
  go_simp
  by_cases e1 : n1.toList = n2.toList <;> by_cases e3 : v1.toList = v2.toList <;> simp [e1, e3]
end Go.Proofs.YtgejegmilkmiiaaGreatDoor
/-
  What the model's SameHeaders and slices.Equal over head lines answer, and SameHeaders.
-/
namespace Go.Proofs.YtgejegmilkmiiaaGreatDoor
open Go.ChangeShapes Go.WideShapes Go.ChangeAt Go.RowKit Go.Sort
theorem sameHs_lens : ∀ (l m : List Hdr), l.length ≠ m.length → sameHs l m = false
  | [], [], h => absurd rfl h
  | [], _ :: _, _ => rfl
  | _ :: _, [], _ => rfl
  | x :: l, y :: m, h => by
    rw [sameHs, sameHs_lens l m (by simpa using h), Bool.and_false]
theorem sameHs_drop {l m : List Hdr} {k : Nat} {x y : Hdr} (hx : l[k]? = some x) (hy : m[k]? = some y) : sameHs (l.drop k) (m.drop k) = (sameH x y && sameHs (l.drop (k + 1)) (m.drop (k + 1))) := by
  rw [drop_hdr l k x hx, drop_hdr m k y hy, sameHs]
set_option maxRecDepth 100000 in
set_option maxHeartbeats 4000000 in
theorem equalHeaders_any (w : World) (a b : Option Addr) (ca cb : Nat) (l m : List Hdr) (hl : l.length ≤ 1048576) (h1 : HdsIn w a l) (h2 : HdsIn w b m) :
    Calls Tryz.prog 164 #[.slice a l.length ca, .slice b m.length cb] w fun e w' => e = .returned (.bool (sameHs l m)) ∧ Below w.heap.size w w' := by
  have H1 : Hid (HdsIn w a l) := h1
  have H2 : Hid (HdsIn w b m) := h2
  clear h1 h2
  by_cases hlen : l.length = m.length
  · have HM : Hid (m.length = l.length) := hlen.symm
    rw [← hlen]
    clear hlen
    generalize hn : l.length = n at *
    have HN : Hid (l.length = n) := hn
    clear hn
    go_enter Tryz.func164, Tryz.ntmps164
    go_wp2_with fail
    go_loopw [13] (fun i wr => ∃ k : Nat, k ≤ n ∧ i = .int .i64 k ∧ sameHs l m = sameHs (l.drop k) (m.drop k) ∧ Below w.heap.size w wr) (fun i _ => n - (intOf i).toNat)
    case atStart => exact ⟨0, Nat.zero_le _, rfl, rfl, Below.refl _ _⟩
    case round =>
      obtain ⟨k, hk, rfl, hs, hb⟩ := hrel
      have HS : Hid (sameHs l m = sameHs (l.drop k) (m.drop k)) := hs
      clear hs
      by_cases hlt : k < n
      · obtain ⟨x, hx⟩ : ∃ r, l[k]? = some r := ⟨l[k]'(by have := HN.out; omega), List.getElem?_eq_getElem _⟩
        obtain ⟨y, hy⟩ : ∃ r, m[k]? = some r := ⟨m[k]'(by have := HM.out; have := HN.out; omega), List.getElem?_eq_getElem _⟩
        rcases H1.out with h | ⟨b1, o1, rfl, at1⟩
        · subst h; simp at hx
        rcases H2.out with h | ⟨b2, o2, rfl, at2⟩
        · subst h; simp at hy
        obtain ⟨p1, p3⟩ := (at1.keep hb) k x hx
        obtain ⟨q1, q3⟩ := (at2.keep hb) k y hy
        have x1 := cell_regrown p1
        have x3 := cell_regrown p3
        have y1 := cell_regrown q1
        have y3 := cell_regrown q3
        have hne := neqHeader x y
        have hgd := guardHeader
        have HD : Hid (sameHs l m = (sameH x y && sameHs (l.drop (k + 1)) (m.drop (k + 1)))) := by show _ = _; rw [HS.out, sameHs_drop hx hy]
        have g0 : (0 : Int) ≤ k := by omega
        have g : (k : Int) < n := by omega
        clear hx hy p1 p3 q1 q3 at1 at2 HS
        generalize x.name = xn at *
        generalize x.value = xv at *
        generalize y.name = yn at *
        generalize y.value = yv at *
        cases hsame : sameH x y
        · rw [hsame] at hne
          have HE : Hid (sameHs l m = false) := by show _ = _; rw [HD.out, hsame, Bool.false_and]
          clear HD hsame
          simp only [Bool.not_false] at hne
          go_wp2_with fail
          refine wp_region_quiet_below (by kernel_rfl) (by kernel_rfl) ?_
          repeat (go_big_quiet_step (fail))
          refine wpQuiet_nil ?_
          intro w2 hw2
          have hbb : Below w.heap.size w w2 := by
            obtain ⟨⟨d, os⟩, rfl⟩ := hw2
            exact hb.trans ((below_regrown wr d os).mono hb.size)
          clear x1 x3 y1 y3 hne hgd hw2 hb
          go_wp2_with fail
          go_ret
          exact ⟨ret_bool HE.out.symm, hbb⟩
        · rw [hsame] at hne
          have HE : Hid (sameHs l m = sameHs (l.drop (k + 1)) (m.drop (k + 1))) := by show _ = _; rw [HD.out, hsame, Bool.true_and]
          clear HD hsame
          simp only [Bool.not_true] at hne
          go_wp2_with fail
          refine wp_region_quiet_below (by kernel_rfl) (by kernel_rfl) ?_
          repeat (go_big_quiet_step (fail))
          refine wpQuiet_nil ?_
          intro w2 hw2
          have hbb : Below w.heap.size w w2 := by
            obtain ⟨⟨d, os⟩, rfl⟩ := hw2
            exact hb.trans ((below_regrown wr d os).mono hb.size)
          clear x1 x3 y1 y3 hne hgd hw2 hb
          go_wp2_with fail
          go_roundw
          case rel => exact ⟨k + 1, by omega, by go_num, HE.out, hbb⟩
          case measure => simp [intOf]; omega
      · have HE : Hid (sameHs l m = true) := by
          show _ = _
          rw [HS.out, List.drop_of_length_le (by have := HN.out; omega), List.drop_of_length_le (by have := HM.out; have := HN.out; omega)]
          rfl
        clear HS
        go_wp2_with fail
        go_ret
        exact ⟨ret_bool HE.out.symm, hb⟩
  · have HE : Hid (sameHs l m = false) := sameHs_lens l m hlen
    have g : ¬ (l.length : Int) = (m.length : Int) := by omega
    have g2 : ((l.length : Int) != (m.length : Int)) = true := by simpa using g
    clear H1 H2
    generalize l.length = n at *
    generalize m.length = n2 at *
    go_enter Tryz.func164, Tryz.ntmps164
    go_wp2_with fail
    go_ret
    exact ⟨ret_bool HE.out.symm, Below.refl _ _⟩
set_option maxHeartbeats 400000 in
theorem implSameH_any (w : World) (a b : Option Addr) (ca cb : Nat) (l m : List Hdr) (hl : l.length ≤ 1048576) (h1 : HdsIn w a l) (h2 : HdsIn w b m) :
    Calls Tryz.prog 149 #[.slice a l.length ca, .slice b m.length cb] w fun e w' => e = .returned (.bool (sameHs l m)) ∧ Below w.heap.size w w' := by
  have HC : Hid (Calls Tryz.prog 164 #[.slice a l.length ca, .slice b m.length cb] w fun e w' => e = .returned (.bool (sameHs l m)) ∧ Below w.heap.size w w') := equalHeaders_any w a b ca cb l m hl h1 h2
  clear h1 h2 hl
  go_enter Tryz.func149, Tryz.ntmps149
  go_wp2_with fail
  refine HC.out.mono ?_
  rintro e w1 ⟨rfl, hb⟩
  go_wp2_with fail
  go_ret
  exact ⟨rfl, hb⟩
end Go.Proofs.YtgejegmilkmiiaaGreatDoor
/-
  What SameRequests and its model answer.
-/
namespace Go.Proofs.YtgejegmilkmiiaaGreatDoor
open Go.ChangeShapes Go.WideShapes Go.ChangeAt Go.RowKit
def sameQ (m h p : ByteArray) (l : List Hdr) (m' h' p' : ByteArray) (l' : List Hdr) : Bool := (m.toList == m'.toList) && (h.toList == h'.toList) && (p.toList == p'.toList) && sameHs l l'
set_option maxHeartbeats 4000000 in
theorem implSameQ_any (w : World) (m h p : ByteArray) (a : Option Addr) (ca : Nat) (l : List Hdr) (m' h' p' : ByteArray) (b : Option Addr) (cb : Nat) (l' : List Hdr) (hl : l.length ≤ 1048576) (h1 : HdsIn w a l) (h2 : HdsIn w b l') :
    Calls Tryz.prog 127 #[.agg #[.string m, .string h, .string p, .slice a l.length ca], .agg #[.string m', .string h', .string p', .slice b l'.length cb]] w fun e w' => e = .returned (.bool (sameQ m h p l m' h' p' l')) ∧ Below w.heap.size w w' := by
  have HE : Hid (sameQ m h p l m' h' p' l' = ((m.toList == m'.toList) && (h.toList == h'.toList) && (p.toList == p'.toList) && sameHs l l')) := rfl
  have bV : Below w.heap.size w ((w.alloc (.cells #[.string m, .string h, .string p, .slice a l.length ca] 26)).alloc (.cells #[.string m', .string h', .string p', .slice b l'.length cb] 26)) := ((Below.refl _ _).alloc (Nat.le_refl _) _).alloc (by simp) _
  have C := implSameH_any _ a b ca cb l l' hl (h1.keep bV) (h2.keep bV)
  have HB : Hid (Below w.heap.size w ((w.alloc (.cells #[.string m, .string h, .string p, .slice a l.length ca] 26)).alloc (.cells #[.string m', .string h', .string p', .slice b l'.length cb] 26))) := bV
  clear bV h1 h2
  generalize sameHs l l' = sb at *
  generalize sameQ m h p l m' h' p' l' = q at *
  generalize l.length = n at *
  generalize l'.length = n' at *
  cases c1 : (m.toList == m'.toList)
  · have HV : Hid (q = false) := by show _ = _; rw [HE.out, c1]; rfl
    clear HE C
    go_enter Tryz.func127, Tryz.ntmps127
    go_wp2_with fail
    go_ret
    exact ⟨ret_bool HV.out.symm, HB.out⟩
  cases c2 : (h.toList == h'.toList)
  · have HV : Hid (q = false) := by show _ = _; rw [HE.out, c1, c2]; rfl
    clear HE C
    go_enter Tryz.func127, Tryz.ntmps127
    go_wp2_with fail
    go_ret
    exact ⟨ret_bool HV.out.symm, HB.out⟩
  cases c3 : (p.toList == p'.toList)
  · have HV : Hid (q = false) := by show _ = _; rw [HE.out, c1, c2, c3]; rfl
    clear HE C
    go_enter Tryz.func127, Tryz.ntmps127
    go_wp2_with fail
    go_ret
    exact ⟨ret_bool HV.out.symm, HB.out⟩
  have HV : Hid (q = sb) := by show _ = _; rw [HE.out, c1, c2, c3]; rfl
  clear HE
  go_enter Tryz.func127, Tryz.ntmps127
  go_wp2_with fail
  refine C.mono ?_
  rintro e w1 ⟨rfl, hb1⟩
  have HB1 : Hid (Below w.heap.size w w1) := HB.out.trans (hb1.mono HB.out.size)
  clear hb1 C HB
  go_wp2_with fail
  go_ret
  exact ⟨ret_bool HV.out.symm, HB1.out⟩
end Go.Proofs.YtgejegmilkmiiaaGreatDoor
/-
  Two flights, held against each other: pieces.
-/
namespace Go.Proofs.YtgejegmilkmiiaaGreatDoor
open Go.ChangeShapes Go.WideShapes Go.ChangeAt Go.RowKit Go.Sort
def sameC (x y : Fl) : Bool := decide (x.id = y.id) && (x.bk == y.bk) && (x.ot == y.ot) && decide (x.du = y.du) && (x.dm == y.dm)
def sameF (x y : Fl) : Bool := sameC x y && ((x.key.toList == y.key.toList) && sameQ x.m x.h x.p x.hs y.m y.h y.p y.hs) && sameRs x.ws y.ws
theorem guardCourse (op : BinOp) (a b : Operand) (x y : Array Value) (w : World) : (eqGuard op 91 a b (.agg x) (.agg y)).run Tryz.prog w = .ok () w := run_eqGuard_agg w op 91 a b x y (by kernel_rfl)
theorem eqlCourse (x y : Fl) (w : World) : (binOp .eql 91 (.agg #[.int .i64 x.id, .bool x.bk, .bool x.ot, .int .i64 x.du, .bool x.dm]) (.agg #[.int .i64 y.id, .bool y.bk, .bool y.ot, .int .i64 y.du, .bool y.dm])).run Tryz.prog w = .ok (.bool (sameC x y)) w := by
  have u9 := Tryz.underlying2
  have a9 := Tryz.isAgg2
  have z9 := Tryz.sizeOf2
  have u8 := Tryz.underlying4
  have a8 := Tryz.isAgg4
  have z8 := Tryz.sizeOf4
  have hS : Tryz.prog.underlying 91 = some (.struct (Tryz.prog.fieldsOf 91)) := by kernel_rfl
  have hp : Tryz.prog.stoodInHeld 91 = false := by kernel_rfl
  obtain ⟨i1, k1, b1, o1, d1, m1, _, _, _, _, _⟩ := x
  obtain ⟨i2, k2, b2, o2, d2, m2, _, _, _, _, _⟩ := y
  simp only [sameC]
  rw [run_eql_struct, show (10000 : Nat) = 9999 + 1 from rfl, run_equalIn_agg w 9999 91 _ _ hS hp]
  simp only [Program.fieldsOf, Tryz.underlying91]
  go_simp
  by_cases e1 : i1 = i2 <;> by_cases e3 : d1 = d2 <;> cases b1 <;> cases b2 <;> cases o1 <;> cases o2 <;> cases m1 <;> cases m2 <;> simp [e1, e3]
set_option maxHeartbeats 2000000 in
theorem trip_any (w : World) (x : Fl) (r : FlR) :
    Calls Tryz.prog 51 #[.agg #[.int .i64 x.id, .string x.key, .bool x.bk, .bool x.ot, .int .i64 x.du, .bool x.dm, .string x.m, .string x.h, .string x.p, .slice r.ha x.hs.length r.hc, .slice r.wa x.ws.length r.wc]] w fun e w' => e = .returned (.agg #[.string x.key, .string x.m, .string x.h, .string x.p, .slice r.ha x.hs.length r.hc, .int .i64 x.id, .bool x.bk, .bool x.ot, .int .i64 x.du, .bool x.dm, .slice r.wa x.ws.length r.wc]) ∧ Below w.heap.size w w' := by
  have HB : Hid (Below w.heap.size w ((w.alloc (.cells #[.int .i64 x.id, .string x.key, .bool x.bk, .bool x.ot, .int .i64 x.du, .bool x.dm, .string x.m, .string x.h, .string x.p, .slice r.ha x.hs.length r.hc, .slice r.wa x.ws.length r.wc] 29)).alloc (.cells #[.string x.key, .string x.m, .string x.h, .string x.p, .slice r.ha x.hs.length r.hc, .int .i64 x.id, .bool x.bk, .bool x.ot, .int .i64 x.du, .bool x.dm, .slice r.wa x.ws.length r.wc] 93))) := ((Below.refl _ _).alloc (Nat.le_refl _) _).alloc (by simp) _
  obtain ⟨id, key, bk, ot, du, dm, m, h, p, hs, ws⟩ := x
  obtain ⟨ha, hc, wa, wc⟩ := r
  simp only at HB ⊢
  generalize hs.length = hl at *
  generalize ws.length = wn at *
  go_enter Tryz.func51, Tryz.ntmps51
  go_wp2_with fail
  exact bodyPost_ret (v := .agg #[.string key, .string m, .string h, .string p, .slice ha hl hc, .int .i64 id, .bool bk, .bool ot, .int .i64 du, .bool dm, .slice wa wn wc]) (by simp [results, Tryz.results51, go_sem]) rfl ⟨rfl, HB.out⟩
set_option maxHeartbeats 2000000 in
theorem asks_any (w : World) (x y : Fl) (r s : FlR) (hl : x.hs.length ≤ 1048576) (h1 : HdsIn w r.ha x.hs) (h2 : HdsIn w s.ha y.hs) :
    Calls Tryz.prog 106 #[.agg #[.string x.key, .string x.m, .string x.h, .string x.p, .slice r.ha x.hs.length r.hc], .agg #[.string y.key, .string y.m, .string y.h, .string y.p, .slice s.ha y.hs.length s.hc]] w fun e w' => e = .returned (.bool ((x.key.toList == y.key.toList) && sameQ x.m x.h x.p x.hs y.m y.h y.p y.hs)) ∧ Below w.heap.size w w' := by
  have bV : Below w.heap.size w ((w.alloc (.cells #[.string x.key, .string x.m, .string x.h, .string x.p, .slice r.ha x.hs.length r.hc] 89)).alloc (.cells #[.string y.key, .string y.m, .string y.h, .string y.p, .slice s.ha y.hs.length s.hc] 89)) := ((Below.refl _ _).alloc (Nat.le_refl _) _).alloc (by simp) _
  have C := implSameQ_any _ x.m x.h x.p r.ha r.hc x.hs y.m y.h y.p s.ha s.hc y.hs hl (h1.keep bV) (h2.keep bV)
  have HB : Hid (Below w.heap.size w ((w.alloc (.cells #[.string x.key, .string x.m, .string x.h, .string x.p, .slice r.ha x.hs.length r.hc] 89)).alloc (.cells #[.string y.key, .string y.m, .string y.h, .string y.p, .slice s.ha y.hs.length s.hc] 89))) := bV
  clear bV h1 h2 hl
  generalize sameQ x.m x.h x.p x.hs y.m y.h y.p y.hs = q at *
  obtain ⟨id, key, bk, ot, du, dm, m, h, p, hs, ws⟩ := x
  obtain ⟨ha, hc, wa, wc⟩ := r
  obtain ⟨id', key', bk', ot', du', dm', m', h', p', hs', ws'⟩ := y
  obtain ⟨ha', hc', wa', wc'⟩ := s
  simp only at HB C ⊢
  generalize hs.length = n at *
  generalize hs'.length = n' at *
  cases c1 : (key.toList == key'.toList)
  · clear C
    go_enter Tryz.func106, Tryz.ntmps106
    go_wp2_with fail
    go_ret
    exact ⟨rfl, HB.out⟩
  go_enter Tryz.func106, Tryz.ntmps106
  go_wp2_with fail
  refine C.mono ?_
  rintro e w1 ⟨rfl, hb1⟩
  have HB1 : Hid (Below w.heap.size w w1) := HB.out.trans (hb1.mono HB.out.size)
  clear hb1 C HB
  go_wp2_with fail
  go_ret
  exact ⟨rfl, HB1.out⟩
end Go.Proofs.YtgejegmilkmiiaaGreatDoor
/-
  The signs of a flight, by the program.
-/
namespace Go.Proofs.YtgejegmilkmiiaaGreatDoor
open Go.ChangeShapes Go.WideShapes Go.ChangeAt Go.RowKit Go.Sort
def sgW (l : List Sg) : List Value := l.flatMap fun x => [.int .i64 x.kd, .int .i64 x.nm, .string x.tx]
theorem sgW_app (l m : List Sg) : sgW (l ++ m) = sgW l ++ sgW m := by simp [sgW]
theorem sgW_len (l : List Sg) : (sgW l).length = l.length * 3 := by
  induction l with
  | nil => rfl
  | cons x l ih =>
    have : sgW (x :: l) = [.int .i64 x.kd, .int .i64 x.nm, .string x.tx] ++ sgW l := rfl
    rw [this, List.length_append, ih]
    simp
    omega
def pre2 (id : Int) (key : ByteArray) : List Sg := [⟨0, id, ⟨#[]⟩⟩, ⟨1, 0, key⟩]
def wSign (x : Wr) : Sg := ⟨2, x.rq, ⟨#[]⟩⟩
def signsF (x : Fl) : List Sg := ⟨0, x.id, ⟨#[]⟩⟩ :: ⟨1, 0, x.key⟩ :: x.ws.map wSign
theorem signsF_len (x : Fl) : (signsF x).length = 2 + x.ws.length := by simp [signsF]; omega
theorem infoSg : (Tryz.prog.info? 116).map (fun i => (i.zero, i.size, i.bytes)) = some (some (.agg #[.int .i64 0, .int .i64 0, .string ⟨#[]⟩]), 3, 32) := by kernel_rfl
set_option maxRecDepth 100000 in
set_option maxHeartbeats 4000000 in
theorem signs_any (w : World) (x : Fl) (r : FlR) (hl : x.ws.length ≤ 1000) (hi : WrIn w r.wa x.ws) :
    Calls Tryz.prog 121 #[.agg #[.string x.key, .string x.m, .string x.h, .string x.p, .slice r.ha x.hs.length r.hc, .int .i64 x.id, .bool x.bk, .bool x.ot, .int .i64 x.du, .bool x.dm, .slice r.wa x.ws.length r.wc]] w fun e w' => (∃ va vc, e = .returned (.slice va (2 + x.ws.length) vc) ∧ w'.ownsRow w.heap.size 116 3 (.slice va (2 + x.ws.length) vc) (2 + x.ws.length) (sgW (signsF x))) ∧ Below w.heap.size w w' := by
  obtain ⟨i0, hi0, hz0, hz1, hz2⟩ := info_parts infoSg
  obtain ⟨W, hW⟩ : ∃ W, W = w.alloc (.cells #[.string x.key, .string x.m, .string x.h, .string x.p, .slice r.ha x.hs.length r.hc, .int .i64 x.id, .bool x.bk, .bool x.ot, .int .i64 x.du, .bool x.dm, .slice r.wa x.ws.length r.wc] 93) := ⟨_, rfl⟩
  have bW : Below w.heap.size w W := by rw [hW]; exact (Below.refl _ _).alloc (Nat.le_refl _) _
  obtain ⟨V, hV⟩ : ∃ V, V = W.alloc (.cells #[.int .i64 0, .int .i64 x.id, .string ⟨#[]⟩, .int .i64 1, .int .i64 0, .string x.key] 116) := ⟨_, rfl⟩
  have HV : Hid (V = (w.alloc (.cells #[.string x.key, .string x.m, .string x.h, .string x.p, .slice r.ha x.hs.length r.hc, .int .i64 x.id, .bool x.bk, .bool x.ot, .int .i64 x.du, .bool x.dm, .slice r.wa x.ws.length r.wc] 93)).alloc (.cells #[.int .i64 0, .int .i64 x.id, .string ⟨#[]⟩, .int .i64 1, .int .i64 0, .string x.key] 116)) := by show V = _; rw [hV, hW]
  have HB : Hid (Below w.heap.size w V) := by show Below _ _ _; rw [hV]; exact bW.alloc bW.size _
  have HE : Hid (E11 V w.heap.size (.string x.key) (.string x.m) (.string x.h) (.string x.p) (.slice r.ha x.hs.length r.hc) (.int .i64 x.id) (.bool x.bk) (.bool x.ot) (.int .i64 x.du) (.bool x.dm) (.slice r.wa x.ws.length r.wc)) := by
    show E11 V w.heap.size (.string x.key) (.string x.m) (.string x.h) (.string x.p) (.slice r.ha x.hs.length r.hc) (.int .i64 x.id) (.bool x.bk) (.bool x.ot) (.int .i64 x.du) (.bool x.dm) (.slice r.wa x.ws.length r.wc)
    rw [hV, hW]
    exact (E11.new w _ _ _ _ _ _ _ _ _ _ _ _).keep ((Below.refl _ _).alloc (Nat.le_refl _) _)
  have hWs : W.heap.size = w.heap.size + 1 := by rw [hW]; simp
  have O1 : Hid (V.ownsRow w.heap.size 116 3 (.slice (some ⟨w.heap.size + 1, 0, none⟩) 2 2) 2 (sgW (pre2 x.id x.key))) := by
    show V.ownsRow w.heap.size 116 3 (.slice (some ⟨w.heap.size + 1, 0, none⟩) 2 2) 2 (sgW (pre2 x.id x.key))
    rw [hV, ← hWs]
    exact ⟨by simp [sgW, pre2], .inr ⟨W.heap.size, 2, _, rfl, bW.size, heap_alloc_new W _, Nat.le_refl _, by unfold maxLen; omega, by simp, by simp [sgW, pre2]⟩⟩
  have HW2 : Hid (∀ X, Below w.heap.size w X → WrIn X r.wa x.ws) := fun X hX => hi.keep hX
  have HSG : Hid (∀ (l : List Sg), signsF x = l → l = (pre2 x.id x.key) ++ x.ws.map wSign) := fun l e => by rw [← e]; rfl
  clear hV hW bW hWs hi
  obtain ⟨id, key, bk, ot, du, dm, m, h, p, hs, ws⟩ := x
  obtain ⟨ha, hc, wa, wc⟩ := r
  simp only at HV HE O1 HW2 HSG hl ⊢
  generalize hn : ws.length = n at *
  have HN : Hid (ws.length = n) := hn
  clear hn
  generalize hs.length = hl' at *
  go_enter Tryz.func121, Tryz.ntmps121
  go_upto_region 2 with fail
  rw [← HV.out]
  clear HV
  have q10 := HE.out.c10
  go_wp2_with fail
  clear q10 HE
  go_loopw [3, 18] (fun v i wr => ∃ k : Nat, k ≤ n ∧ i = .int .i64 k ∧ wr.ownsRow w.heap.size 116 3 v (2 + k) (sgW (pre2 id key ++ (ws.take k).map wSign)) ∧ Below w.heap.size w wr) (fun _ i _ => n - (intOf i).toNat)
  case atStart => exact ⟨0, Nat.zero_le _, rfl, by simpa using O1.out, HB.out⟩
  case round =>
    obtain ⟨k, hk, rfl, hrow, hb⟩ := hrel
    obtain ⟨va, vc, rfl, _⟩ := row_form hrow
    clear O1 HB
    by_cases hlt : k < n
    · obtain ⟨y, hr⟩ : ∃ y, ws[k]? = some y := ⟨ws[k]'(by have := HN.out; omega), List.getElem?_eq_getElem _⟩
      rcases HW2.out wr hb with e | ⟨b', off', er, hat⟩
      · rw [e] at hr; simp at hr
      obtain ⟨p0, p1, p2, p3⟩ := hat k y hr
      rw [er]
      have g : (k : Int) < n := by omega
      have g0 : (0 : Int) ≤ k := by omega
      obtain ⟨yr, yh, yd, yl⟩ := y
      simp only at p0 p1 p2 p3
      obtain ⟨X2, hX2⟩ : ∃ X, X = (wr.alloc (.cells #[.int .i64 yr, .bool yh, .int .i64 yd, .bool yl] 31)).alloc (.cells #[.int .i64 2, .int .i64 yr, .string ⟨#[]⟩] 116) := ⟨_, rfl⟩
      have b2 : Below wr.heap.size wr X2 := by rw [hX2]; exact ((Below.refl _ _).alloc (Nat.le_refl _) _).alloc (by simp) _
      have R2 : Hid (X2.ownsRow w.heap.size 116 3 (.slice va (2 + k) vc) (2 + k) (sgW (pre2 id key ++ (ws.take k).map wSign)) ∧ Below w.heap.size w X2) := ⟨row_below hrow b2, hb.trans (b2.mono hb.size)⟩
      have HX2 : Hid (X2 = (wr.alloc (.cells #[.int .i64 yr, .bool yh, .int .i64 yd, .bool yl] 31)).alloc (.cells #[.int .i64 2, .int .i64 yr, .string ⟨#[]⟩] 116)) := hX2
      have N3 : Hid (1 = 0 ∨ ∃ ad, some (⟨wr.heap.size + 1, 0, none⟩ : Addr) = some ad ∧ ∀ j u, ([Value.int .i64 2, Value.int .i64 yr, Value.string ⟨#[]⟩])[j]? = some u → X2.cell? (ad.add j) = some u) := by
        refine .inr ⟨_, rfl, fun j u hj => ?_⟩
        have ad : (⟨wr.heap.size + 1, 0, none⟩ : Addr).add j = ⟨wr.heap.size + 1, j, none⟩ := by unfold Addr.add; split <;> simp_all
        rw [ad, hX2]
        have hsz : (wr.alloc (.cells #[.int .i64 yr, .bool yh, .int .i64 yd, .bool yl] 31)).heap.size = wr.heap.size + 1 := by simp
        rw [← hsz, World.cell?_alloc_mark]
        match j, hj with
        | 0, hj => simp at hj; subst hj; simp
        | 1, hj => simp at hj; subst hj; simp
        | 2, hj => simp at hj; subst hj; simp
      have HT : Hid (sgW (pre2 id key ++ (ws.take k).map wSign) ++ [.int .i64 2, .int .i64 yr, .string ⟨#[]⟩] = sgW (pre2 id key ++ (ws.take (k + 1)).map wSign)) := by
        show _ = _
        obtain ⟨hk2, he2⟩ := List.getElem?_eq_some_iff.1 hr
        rw [List.take_succ_eq_append_getElem hk2, he2, List.map_append, ← List.append_assoc]
        rw [sgW_app (pre2 id key ++ (ws.take k).map wSign) (List.map wSign [⟨yr, yh, yd, yl⟩])]
        rfl
      rw [HX2.out] at R2 N3
      clear hrow hat hr b2 hX2 hb HX2
      go_wp2_with (at_builtin; refine wpList_plain rfl fun _ hK => wp_append_in _ (.tmp 22) (.tmp 26) 167 116 rfl i0 _ 3 32 Tryz.underlying167 hi0 hz0 hz1 hz2 rfl (by omega) w.heap.size _ (2 + k) (sgW (pre2 id key ++ (ws.take k).map wSign)) rfl R2.out.1 (some ⟨wr.heap.size + 1, 0, none⟩) 1 1 [.int .i64 2, .int .i64 yr, .string ⟨#[]⟩] rfl rfl N3.out (by simp [Value.oneCell']) (by unfold maxLen; omega) (by omega) R2.out.2.size (fun v' w' h1 h2 _ => hK _ _ ?_))
      have HF : Hid (w'.ownsRow w.heap.size 116 3 v' (2 + (k + 1)) (sgW (pre2 id key ++ (ws.take (k + 1)).map wSign)) ∧ Below w.heap.size w w') := by
        rw [HT.out] at h1
        exact ⟨by rw [← Nat.add_assoc]; exact h1, R2.out.2.trans h2⟩
      clear h1 h2 R2 N3 p0 p1 p2 p3
      go_wp2_with fail
      go_roundw
      case rel => exact ⟨k + 1, by omega, by go_num, HF.out.1, HF.out.2⟩
      case measure => simp [intOf]; omega
    · have hkn : k = n := by omega
      subst hkn
      have HF : Hid (wr.ownsRow w.heap.size 116 3 (.slice va (2 + k) vc) (2 + k) (sgW (signsF ⟨id, key, bk, ot, du, dm, m, h, p, hs, ws⟩))) := by
        have e : ws.take k = ws := List.take_of_length_le (by have := HN.out; omega)
        rw [e] at hrow
        rw [HSG.out _ rfl]
        exact hrow
      clear hrow
      go_wp2_with fail
      go_ret
      exact ⟨⟨va, vc, rfl, HF.out⟩, hb⟩
end Go.Proofs.YtgejegmilkmiiaaGreatDoor
/-
  What stands in a list of flights, by its sign.
-/
namespace Go.Proofs.YtgejegmilkmiiaaGreatDoor
open Go.ChangeShapes Go.WideShapes Go.ChangeAt Go.RowKit Go.Sort
def tabS (at' : Nat) : List Sg → (Sg → Option Nat) → Bool → (Sg → Option Nat) × Bool
  | [], p, a => (p, a)
  | s :: l, p, a => tabS at' l (fun y => if sgEq y s = true then some at' else p y) (a && (p s).isNone)
def tabF : Nat → List Fl → (Sg → Option Nat) → Bool → (Sg → Option Nat) × Bool
  | _, [], p, a => (p, a)
  | k, x :: l, p, a => tabF (k + 1) l (tabS k (signsF x) p a).1 (tabS k (signsF x) p a).2
theorem tabS_drop {l : List Sg} {j k : Nat} {s : Sg} {p : Sg → Option Nat} {a : Bool} (h : l[j]? = some s) : tabS k (l.drop j) p a = tabS k (l.drop (j + 1)) (fun y => if sgEq y s = true then some k else p y) (a && (p s).isNone) := by
  obtain ⟨hj, rfl⟩ := List.getElem?_eq_some_iff.1 h
  rw [List.drop_eq_getElem_cons hj, tabS]
theorem tabF_drop {l : List (Fl × FlR)} {k : Nat} {q : Fl × FlR} {p : Sg → Option Nat} {a : Bool} (h : l[k]? = some q) : tabF k ((l.map Prod.fst).drop k) p a = tabF (k + 1) ((l.map Prod.fst).drop (k + 1)) (tabS k (signsF q.1) p a).1 (tabS k (signsF q.1) p a).2 := by
  obtain ⟨hj, rfl⟩ := List.getElem?_eq_some_iff.1 h
  rw [List.drop_eq_getElem_cons (i := k) (by simpa using hj), tabF]
  simp
/-- Signs that can be keys. -/
def SgsOk (x : Fl) : Prop := ∀ s ∈ signsF x, SgOk s
theorem sgW_at : ∀ {l : List Sg} {j : Nat} {s : Sg}, l[j]? = some s → (sgW l)[j * 3]? = some (.int .i64 s.kd) ∧ (sgW l)[j * 3 + 1]? = some (.int .i64 s.nm) ∧ (sgW l)[j * 3 + 2]? = some (.string s.tx)
  | [], _, _, h => by simp at h
  | x :: l, 0, s, h => by
    obtain rfl : x = s := by simpa using h
    exact ⟨rfl, rfl, rfl⟩
  | x :: l, j + 1, s, h => by
    have e : sgW (x :: l) = [.int .i64 x.kd, .int .i64 x.nm, .string x.tx] ++ sgW l := rfl
    have ih := sgW_at (l := l) (j := j) (s := s) (by simpa using h)
    have h0 : (j + 1) * 3 = j * 3 + 3 := by omega
    rw [e, h0]
    refine ⟨?_, ?_, ?_⟩
    · rw [List.getElem?_append_right (by simp)]; simpa using ih.1
    · rw [List.getElem?_append_right (by simp)]; simpa [show j * 3 + 3 + 1 - 3 = j * 3 + 1 by omega] using ih.2.1
    · rw [List.getElem?_append_right (by simp)]; simpa [show j * 3 + 3 + 2 - 3 = j * 3 + 2 by omega] using ih.2.2
theorem sg_add (g j : Nat) : (⟨g, 0, none⟩ : Addr).add j = ⟨g, j, none⟩ := by unfold Addr.add; split <;> simp_all
theorem sg_cells {w : World} {base : Nat} {va : Option Addr} {n vc : Nat} {l : List Sg} (h : w.ownsRow base 116 3 (.slice va n vc) n (sgW l)) {j : Nat} {s : Sg} (hj : l[j]? = some s) :
    ∃ g, va = some ⟨g, 0, none⟩ ∧ base ≤ g ∧ g < w.heap.size ∧ w.cell? ⟨g, j * 3, none⟩ = some (.int .i64 s.kd) ∧ w.cell? ⟨g, j * 3 + 1, none⟩ = some (.int .i64 s.nm) ∧ w.cell? ⟨g, j * 3 + 2, none⟩ = some (.string s.tx) := by
  obtain ⟨s1, s2, s3⟩ := sgW_at hj
  have hl := h.1
  have hh := h.2
  rcases hh with ⟨_, h2⟩ | ⟨g, c, cur, e, hg, hh, _⟩
  · rw [h2] at hl
    have : sgW l = [] := List.length_eq_zero_iff.1 (by simpa using hl)
    rw [this] at s1
    simp at s1
  · simp only [Value.slice.injEq] at e
    have hv : (Value.slice va n vc).ownBlock = some g := by rw [e.1]; rfl
    have hc := h.cells hv
    refine ⟨g, e.1, hg, (Array.getElem?_eq_some_iff.1 hh).1, ?_, ?_, ?_⟩
    · have := hc _ _ s1; rw [sg_add] at this; exact this
    · have := hc _ _ s2; rw [sg_add] at this; exact this
    · have := hc _ _ s3; rw [sg_add] at this; exact this
theorem SgsMap.mono {w : World} {B n n' : Nat} {p : Sg → Option Nat} (h : SgsMap w B n p) (hn : n ≤ n') : SgsMap w B n' p := by
  obtain ⟨D, hD, h2⟩ := h
  exact ⟨D, hD.mono hn, h2⟩
def none3 : Sg → Option Nat := fun _ => none
set_option maxRecDepth 100000 in
set_option maxHeartbeats 16000000 in
theorem flightTable_any (w : World) (a : Option Addr) (cap : Nat) (l : List (Fl × FlR)) (hn : l.length ≤ 24) (hok : ∀ q ∈ l, q.1.ws.length ≤ 10 ∧ SgsOk q.1) (hi : FlsIn w a l) :
    Calls Tryz.prog 99 #[.slice a l.length cap] w fun e w' => (∃ M, e = .returned (.tuple #[.map (some M), .bool (tabF 0 (l.map Prod.fst) none3 true).2]) ∧ SgsMap w' M 1000 (tabF 0 (l.map Prod.fst) none3 true).1 ∧ w.heap.size ≤ M) ∧ Below w.heap.size w w' := by
  have HI : Hid (FlsIn w a l) := hi
  have HOK : Hid (∀ q ∈ l, q.1.ws.length ≤ 10 ∧ SgsOk q.1) := hok
  obtain ⟨T, hT⟩ : ∃ T, Hid (tabF 0 (l.map Prod.fst) none3 true = T) := ⟨_, rfl⟩
  rw [hT.out]
  have hmm := @run_makeMap Tryz.prog
  clear hi hok
  generalize hln : l.length = n at *
  have HN : Hid (l.length = n) := hln
  clear hln
  go_enter Tryz.func99, Tryz.ntmps99
  go_wp2_with fail
  go_loopw [5, 15] (fun ap i wr => ∃ (k : Nat) (p : Sg → Option Nat) (b : Bool) (c : Nat), k ≤ n ∧ i = .int .i64 k ∧ ap = .bool b ∧ SgsMap wr w.heap.size c p ∧ c ≤ 12 * k ∧ tabF k ((l.map Prod.fst).drop k) p b = T ∧ Below w.heap.size w wr) (fun _ i _ => n - (intOf i).toNat)
  case atStart => exact ⟨0, none3, true, 0, Nat.zero_le _, rfl, rfl, SgsMap.made w, Nat.zero_le _, by simpa using hT.out, (Below.refl _ _).alloc (Nat.le_refl _) _⟩
  case round =>
    obtain ⟨k, p, b, c, hk, rfl, rfl, hmap, hc, htab, hb⟩ := hrel
    clear hT hmm
    by_cases hlt : k < n
    · obtain ⟨q, hq⟩ : ∃ q, l[k]? = some q := ⟨l[k]'(by have := HN.out; omega), List.getElem?_eq_getElem _⟩
      obtain ⟨hw10, hsok⟩ := HOK.out q (List.mem_of_getElem? hq)
      rcases HI.out with e | ⟨b1, o1, er, hat⟩
      · rw [e] at hq; simp at hq
      have PC := (hat.keep hb).cells hq
      have PI := (hat.keep hb).in hq
      rw [er]
      have g : (k : Int) < n := by omega
      have g0 : (0 : Int) ≤ k := by omega
      have HTB : Hid (tabF (k + 1) ((l.map Prod.fst).drop (k + 1)) (tabS k (signsF q.1) p b).1 (tabS k (signsF q.1) p b).2 = T) := by show _ = T; rw [← tabF_drop hq]; exact htab
      have HTR : Hid (∀ X, Calls Tryz.prog 51 #[.agg #[.int .i64 q.1.id, .string q.1.key, .bool q.1.bk, .bool q.1.ot, .int .i64 q.1.du, .bool q.1.dm, .string q.1.m, .string q.1.h, .string q.1.p, .slice q.2.ha q.1.hs.length q.2.hc, .slice q.2.wa q.1.ws.length q.2.wc]] X fun e w' => e = .returned (.agg #[.string q.1.key, .string q.1.m, .string q.1.h, .string q.1.p, .slice q.2.ha q.1.hs.length q.2.hc, .int .i64 q.1.id, .bool q.1.bk, .bool q.1.ot, .int .i64 q.1.du, .bool q.1.dm, .slice q.2.wa q.1.ws.length q.2.wc]) ∧ Below X.heap.size X w') := fun X => trip_any X q.1 q.2
      have HSG : Hid (∀ X, Below wr.heap.size wr X → Calls Tryz.prog 121 #[.agg #[.string q.1.key, .string q.1.m, .string q.1.h, .string q.1.p, .slice q.2.ha q.1.hs.length q.2.hc, .int .i64 q.1.id, .bool q.1.bk, .bool q.1.ot, .int .i64 q.1.du, .bool q.1.dm, .slice q.2.wa q.1.ws.length q.2.wc]] X fun e w' => (∃ va vc, e = .returned (.slice va (2 + q.1.ws.length) vc) ∧ w'.ownsRow X.heap.size 116 3 (.slice va (2 + q.1.ws.length) vc) (2 + q.1.ws.length) (sgW (signsF q.1))) ∧ Below X.heap.size X w') := fun X hX => signs_any X q.1 q.2 (by omega) (PI.k.keep hX)
      have HSL : Hid ((signsF q.1).length = 2 + q.1.ws.length) := signsF_len q.1
      have HSO : Hid (∀ s ∈ signsF q.1, SgOk s) := hsok
      have HM : Hid (∀ X, Below wr.heap.size wr X → SgsMap X w.heap.size c p) := fun X hX => hmap.below hX
      have HB : Hid (Below w.heap.size w wr) := hb
      obtain ⟨TS, hTS⟩ : ∃ z, Hid (tabS k (signsF q.1) p b = z) := ⟨_, rfl⟩
      rw [hTS.out] at HTB
      have hTS' : Hid (tabS k ((signsF q.1).drop 0) p b = TS) := hTS.out
      have p0 := PC.1
      have p1 := PC.2.1
      have p2 := PC.2.2.1
      have p3 := PC.2.2.2.1
      have p4 := PC.2.2.2.2.1
      have p5 := PC.2.2.2.2.2.1
      have p6 := PC.2.2.2.2.2.2.1
      have p7 := PC.2.2.2.2.2.2.2.1
      have p8 := PC.2.2.2.2.2.2.2.2.1
      have p9 := PC.2.2.2.2.2.2.2.2.2.1
      have p10 := PC.2.2.2.2.2.2.2.2.2.2
      clear PC PI hq hat hsok htab hmap hb hTS
      obtain ⟨⟨id, key, bk, ot, du, dm, mt, ho, pa, hs, ws⟩, ⟨ha, hcc, wa, wc⟩⟩ := q
      simp only at p0 p1 p2 p3 p4 p5 p6 p7 p8 p9 p10 HTR HSG HSL hw10
      generalize signsF ⟨id, key, bk, ot, du, dm, mt, ho, pa, hs, ws⟩ = sl at *
      generalize hs.length = hl at *
      generalize ws.length = wn at *
      obtain ⟨W2, hW2⟩ : ∃ X, X = wr.alloc (.cells #[.int .i64 id, .string key, .bool bk, .bool ot, .int .i64 du, .bool dm, .string mt, .string ho, .string pa, .slice ha hl hcc, .slice wa wn wc] 29) := ⟨_, rfl⟩
      have HW2 : Hid (W2 = wr.alloc (.cells #[.int .i64 id, .string key, .bool bk, .bool ot, .int .i64 du, .bool dm, .string mt, .string ho, .string pa, .slice ha hl hcc, .slice wa wn wc] 29)) := hW2
      have B2 : Hid (Below wr.heap.size wr W2) := by show Below _ _ _; rw [hW2]; exact (Below.refl _ _).alloc (Nat.le_refl _) _
      clear hW2
      go_wp2_with fail
      rw [← HW2.out]
      clear HW2 p0 p1 p2 p3 p4 p5 p6 p7 p8 p9 p10
      refine (HTR.out _).mono ?_
      rintro e0 w3 ⟨rfl, hb3⟩
      have B3 : Hid (Below wr.heap.size wr w3) := B2.out.trans (hb3.mono B2.out.size)
      clear hb3 B2
      go_wp2_with fail
      refine (HSG.out _ B3.out).mono ?_
      rintro e0 w4 ⟨⟨va, vc, rfl, hrow⟩, hb4⟩
      have B4 : Hid (Below wr.heap.size wr w4) := B3.out.trans (hb4.mono B3.out.size)
      obtain ⟨G, hG⟩ : ∃ G, w3.heap.size = G := ⟨_, rfl⟩
      rw [hG] at hrow
      have HG : Hid (w.heap.size < G) := by have := (HM.out _ B3.out).lt; show _ < _; omega
      have HR : Hid (w4.ownsRow G 116 3 (.slice va (2 + wn) vc) (2 + wn) (sgW sl)) := hrow
      have M4 : Hid (SgsMap w4 w.heap.size c p ∧ Below w.heap.size w w4) := ⟨HM.out _ B4.out, HB.out.trans (B4.out.mono HB.out.size)⟩
      clear hb4 hrow B3 B4 hG HM HSG HTR HB
      go_wp2_with fail
      obtain ⟨wo, hwo⟩ : ∃ wo : World, wo = wr := ⟨_, rfl⟩
      subst hwo
      go_loopw [5, 24] (fun ap i wr => ∃ (j : Nat) (p' : Sg → Option Nat) (b' : Bool) (c' : Nat), j ≤ 2 + wn ∧ i = .int .i64 j ∧ ap = .bool b' ∧ SgsMap wr w.heap.size c' p' ∧ c' ≤ 12 * k + j ∧ tabS k (sl.drop j) p' b' = TS ∧ wr.ownsRow G 116 3 (.slice va (2 + wn) vc) (2 + wn) (sgW sl) ∧ Below w.heap.size w wr) (fun _ i _ => 2 + wn - (intOf i).toNat)
      case atStart => exact ⟨0, p, b, c, Nat.zero_le _, rfl, rfl, M4.out.1, by omega, hTS'.out, HR.out, M4.out.2⟩
      case round =>
        obtain ⟨j, p', b', c', hj, rfl, rfl, hmap', hc', htab', hrow', hb'⟩ := hrel
        clear M4 HR hTS'
        by_cases hlj : j < 2 + wn
        · obtain ⟨s, hs'⟩ : ∃ s, sl[j]? = some s := ⟨sl[j]'(by have := HSL.out; omega), List.getElem?_eq_getElem _⟩
          have hok := HSO.out s (List.mem_of_getElem? hs')
          obtain ⟨gb, rfl, hgb, hglt, s1, s2, s3⟩ := sg_cells hrow' hs'
          have HT2 : Hid (tabS k (sl.drop (j + 1)) (fun y => if sgEq y s = true then some k else p' y) (b' && (p' s).isNone) = TS) := by show _ = TS; rw [← tabS_drop hs']; exact htab'
          have HOKS : Hid (SgOk s) := hok
          have gj : (j : Int) < 2 + wn := by omega
          have gj0 : (0 : Int) ≤ j := by omega
          have HR2 : Hid (wr.ownsRow G 116 3 (.slice (some ⟨gb, 0, none⟩) (2 + wn) vc) (2 + wn) (sgW sl)) := hrow'
          have HB2 : Hid (Below w.heap.size w wr) := hb'
          have HM2 : Hid (SgsMap (wr.alloc (.cells #[.int .i64 s.kd, .int .i64 s.nm, .string s.tx] 116)) w.heap.size c' p') := hmap'.below ((Below.refl _ _).alloc (Nat.le_refl _) _)
          have HNE : Hid (∀ q', (Value.slice (some ⟨gb, 0, none⟩) (2 + wn) vc).ownBlock = some q' → q' ≠ w.heap.size) := fun q' hq' => by
            have e : gb = q' := by simpa [Value.ownBlock] using hq'
            have := HG.out
            omega
          clear hrow' hb' hmap' htab' hok hs'
          obtain ⟨kd, nm, tx⟩ := s
          simp only at s1 s2 s3 HM2
          cases hps : p' ⟨kd, nm, tx⟩ with
          | none =>
            rw [hps] at HT2
            simp only [Option.isNone_none, Bool.and_true] at HT2
            go_wp2_with (first | (at_lookup; refine wpList_lookS_none _ rfl _ _ rfl w.heap.size c' p' rfl HM2.out ⟨kd, nm, tx⟩ rfl HOKS.out hps ?_) | (at_mapUpdate; refine wpList_putS _ rfl _ _ _ rfl w.heap.size c' p' rfl HM2.out (by omega) ⟨kd, nm, tx⟩ rfl HOKS.out k (by omega) rfl w.heap.size (Nat.le_refl _) ?_; intro w5 HM5 hb5 hg5))
            have HF : Hid (w5.ownsRow G 116 3 (.slice (some ⟨gb, 0, none⟩) (2 + wn) vc) (2 + wn) (sgW sl) ∧ Below w.heap.size w w5) := by
              have al : Below wr.heap.size wr (wr.alloc (.cells #[.int .i64 kd, .int .i64 nm, .string tx] 116)) := (Below.refl _ _).alloc (Nat.le_refl _) _
              refine ⟨World.ownsRow.kept (row_below HR2.out al) hg5 (by right; intro e; exact HNE.out _ e rfl), (HB2.out.trans (al.mono HB2.out.size)).trans hb5⟩
            have HM6 : Hid (SgsMap w5 w.heap.size (c' + 1) (fun y => if sgEq y ⟨kd, nm, tx⟩ = true then some k else p' y)) := HM5
            clear HM5 hb5 hg5 HM2 HR2 HB2 s1 s2 s3
            go_wp2_with fail
            go_roundw
            case rel => exact ⟨j + 1, _, _, c' + 1, by omega, by go_num, rfl, HM6.out, by omega, HT2.out, HF.out.1, HF.out.2⟩
            case measure => simp [intOf]; omega
          | some i =>
            rw [hps] at HT2
            simp only [Option.isNone_some, Bool.and_false] at HT2
            go_wp2_with (first | (at_lookup; refine wpList_lookS_some _ rfl _ _ rfl w.heap.size c' p' rfl HM2.out ⟨kd, nm, tx⟩ rfl HOKS.out i hps ?_) | (at_mapUpdate; refine wpList_putS _ rfl _ _ _ rfl w.heap.size c' p' rfl HM2.out (by omega) ⟨kd, nm, tx⟩ rfl HOKS.out k (by omega) rfl w.heap.size (Nat.le_refl _) ?_; intro w5 HM5 hb5 hg5))
            have HF : Hid (w5.ownsRow G 116 3 (.slice (some ⟨gb, 0, none⟩) (2 + wn) vc) (2 + wn) (sgW sl) ∧ Below w.heap.size w w5) := by
              have al : Below wr.heap.size wr (wr.alloc (.cells #[.int .i64 kd, .int .i64 nm, .string tx] 116)) := (Below.refl _ _).alloc (Nat.le_refl _) _
              refine ⟨World.ownsRow.kept (row_below HR2.out al) hg5 (by right; intro e; exact HNE.out _ e rfl), (HB2.out.trans (al.mono HB2.out.size)).trans hb5⟩
            have HM6 : Hid (SgsMap w5 w.heap.size (c' + 1) (fun y => if sgEq y ⟨kd, nm, tx⟩ = true then some k else p' y)) := HM5
            clear HM5 hb5 hg5 HM2 HR2 HB2 s1 s2 s3
            go_wp2_with fail
            go_roundw
            case rel => exact ⟨j + 1, _, _, c' + 1, by omega, by go_num, rfl, HM6.out, by omega, HT2.out, HF.out.1, HF.out.2⟩
            case measure => simp [intOf]; omega
        · have hjn : sl.drop j = [] := List.drop_of_length_le (by have := HSL.out; omega)
          rw [hjn, tabS] at htab'
          have HF : Hid (SgsMap wr w.heap.size c' p' ∧ tabF (k + 1) ((l.map Prod.fst).drop (k + 1)) p' b' = T ∧ Below w.heap.size w wr) := by
            have e1 : TS.1 = p' := by rw [← htab']
            have e2 : TS.2 = b' := by rw [← htab']
            have := HTB.out
            rw [e1, e2] at this
            exact ⟨hmap', this, hb'⟩
          clear hmap' htab' hrow' hb'
          go_wp2_with fail
          go_roundw
          case rel => exact ⟨k + 1, p', b', c', by omega, by go_num, rfl, HF.out.1, by omega, HF.out.2.1, HF.out.2.2⟩
          case measure => simp [intOf]; omega
    · have hd : (l.map Prod.fst).drop k = [] := List.drop_of_length_le (by have := HN.out; simp; omega)
      rw [hd, tabF] at htab
      have HF : Hid (SgsMap wr w.heap.size 1000 T.1 ∧ T.2 = b) := by
        rw [← htab]
        exact ⟨hmap.mono (by omega), rfl⟩
      clear hmap htab
      go_wp2_with fail
      exact bodyPost_ret (v := .tuple #[.map (some w.heap.size), .bool b]) (by simp [results, Tryz.results99, go_sem]) rfl ⟨⟨w.heap.size, by rw [HF.out.2], HF.out.1, Nat.le_refl _⟩, hb⟩
set_option maxHeartbeats 2000000 in
theorem areApart_any (w : World) (a : Option Addr) (cap : Nat) (l : List (Fl × FlR)) (hn : l.length ≤ 24) (hok : ∀ q ∈ l, q.1.ws.length ≤ 10 ∧ SgsOk q.1) (hi : FlsIn w a l) :
    Calls Tryz.prog 67 #[.slice a l.length cap] w fun e w' => e = .returned (.bool (tabF 0 (l.map Prod.fst) none3 true).2) ∧ Below w.heap.size w w' := by
  have C := flightTable_any w a cap l hn hok hi
  clear hok hi
  generalize (tabF 0 (l.map Prod.fst) none3 true) = T at *
  generalize l.length = n at *
  go_enter Tryz.func67, Tryz.ntmps67
  go_wp2_with fail
  refine C.mono ?_
  rintro e w1 ⟨⟨M, rfl, _, _⟩, hb1⟩
  have HB : Hid (Below w.heap.size w w1) := hb1
  clear hb1 C
  go_wp2_with fail
  go_ret
  exact ⟨rfl, HB.out⟩
end Go.Proofs.YtgejegmilkmiiaaGreatDoor
/-
  Word bytes: the table, plainly. No Go in sight.
-/
namespace Go.Proofs.YtgejegmilkmiiaaGreatDoor
def wordTab : List Bool := [false, false, false, false, false, false, false, false, false, false, false, false, false, false, false, false, false, false, false, false, false, false, false, false, false, false, false, false, false, false, false, false, false, true, false, true, true, true, true, true, false, false, true, true, false, true, true, false, true, true, true, true, true, true, true, true, true, true, false, false, false, false, false, false, false, true, true, true, true, true, true, true, true, true, true, true, true, true, true, true, true, true, true, true, true, true, true, true, true, true, true, false, false, false, true, true, false, true, true, true, true, true, true, true, true, true, true, true, true, true, true, true, true, true, true, true, true, true, true, true, true, true, true, false, true, false, true, false]
def wordI (c : Int) : Bool := wordTab.getD c.toNat false
theorem wordTab_len : wordTab.length = 128 := by decide +kernel
/-- One of the signs that are no letter and no digit. -/
def signI (c : Nat) : Bool := [33, 35, 36, 37, 38, 39, 42, 43, 45, 46, 94, 95, 124, 126].contains c
theorem table_all : ∀ c : Fin 256, wordTab.getD c.val false = (signI c.val || (decide (97 ≤ c.val) && decide (c.val ≤ 122)) || (decide (65 ≤ c.val) && decide (c.val ≤ 90)) || (decide (48 ≤ c.val) && decide (c.val ≤ 57))) := by decide +kernel
theorem wordI_eq (c : Int) (h0 : 0 ≤ c) (h1 : c < 256) : wordI c = (signI c.toNat || (decide (97 ≤ c) && decide (c ≤ 122)) || (decide (65 ≤ c) && decide (c ≤ 90)) || (decide (48 ≤ c) && decide (c ≤ 57))) := by
  obtain ⟨n, rfl⟩ := Int.eq_ofNat_of_zero_le h0
  have h2 : n < 256 := by omega
  have := table_all ⟨n, h2⟩
  simp only at this
  rw [wordI, Int.toNat_natCast, this]
  have e : ∀ a : Nat, decide (a ≤ n) = decide ((a : Int) ≤ (n : Int)) := fun a => by simp
  have e' : ∀ a : Nat, decide (n ≤ a) = decide ((n : Int) ≤ (a : Int)) := fun a => by simp
  simp only [e, e']
  rfl
theorem wordI_big (c : Int) (h : 128 ≤ c) : wordI c = false := by
  have hl := wordTab_len
  unfold wordI
  rw [List.getD_eq_getElem?_getD, List.getElem?_eq_none (by omega)]
  rfl
def allW (l : List UInt8) : Bool := l.all fun c => wordI (c.toNat : Int)
theorem allW_snoc (l : List UInt8) (c : UInt8) : allW (l ++ [c]) = (allW l && wordI (c.toNat : Int)) := by simp [allW]
theorem allW_of_take (l : List UInt8) (k : Nat) (h : allW (l.take k) = false) : allW l = false := by
  have e := List.take_append_drop k l
  rw [← e]
  simp only [allW] at h ⊢
  rw [List.all_append, h, Bool.false_and]
theorem allW_not (s : ByteArray) (k : Nat) (h : k < s.size) (hd : wordI (s[k].toNat : Int) = false) : allW s.data.toList = false := by
  refine allW_of_take _ (k + 1) ?_
  rw [take_snoc s k h, allW_snoc, hd, Bool.and_false]
def wordS (s : ByteArray) : Bool := decide (1 ≤ s.size) && decide (s.size ≤ 64) && allW s.data.toList
theorem wordS_short (s : ByteArray) (h : s.size < 1) : wordS s = false := by simp [wordS]; omega
theorem wordS_long (s : ByteArray) (h : 64 < s.size) : wordS s = false := by simp [wordS]; omega
theorem wordS_mid (s : ByteArray) (h1 : 1 ≤ s.size) (h2 : s.size ≤ 64) : wordS s = allW s.data.toList := by simp [wordS, h1, h2]
end Go.Proofs.YtgejegmilkmiiaaGreatDoor
/-
  Quotes, plainly. No Go in sight.
-/
namespace Go.Proofs.YtgejegmilkmiiaaGreatDoor
def plainI (c : Int) : Bool := c == 9 || (decide (32 ≤ c) && decide (c ≤ 126))
def plainL (l : List UInt8) : Bool := l.all fun c => plainI (c.toNat : Int)
theorem plainL_snoc (l : List UInt8) (c : UInt8) : plainL (l ++ [c]) = (plainL l && plainI (c.toNat : Int)) := by simp [plainL]
theorem plainL_of_take (l : List UInt8) (k : Nat) (h : plainL (l.take k) = false) : plainL l = false := by
  have e := List.take_append_drop k l
  rw [← e]
  simp only [plainL] at h ⊢
  rw [List.all_append, h, Bool.false_and]
theorem plainL_not (s : ByteArray) (k : Nat) (h : k < s.size) (hd : plainI (s[k].toNat : Int) = false) : plainL s.data.toList = false := by
  refine plainL_of_take _ (k + 1) ?_
  rw [take_snoc s k h, plainL_snoc, hd, Bool.and_false]
/-- One byte between quotes. -/
def quoteC (c : UInt8) : List UInt8 := if (c.toNat : Int) = 34 ∨ (c.toNat : Int) = 92 then [92, c] else [c]
def quoteB (l : List UInt8) : List UInt8 := l.flatMap quoteC
def quoteL (l : List UInt8) : List UInt8 := [34] ++ quoteB l ++ [34]
theorem quoteB_snoc (l : List UInt8) (c : UInt8) : quoteB (l ++ [c]) = quoteB l ++ quoteC c := by simp [quoteB]
theorem quoteC_yes {c : UInt8} (h : (c.toNat : Int) = 34 ∨ (c.toNat : Int) = 92) : quoteC c = [92, c] := by simp only [quoteC, if_pos h]
theorem quoteC_no {c : UInt8} (h : ¬ ((c.toNat : Int) = 34 ∨ (c.toNat : Int) = 92)) : quoteC c = [c] := by simp only [quoteC, if_neg h]
theorem quoteC_len (c : UInt8) : (quoteC c).length ≤ 2 := by unfold quoteC; split <;> simp
theorem quoteB_len (l : List UInt8) : (quoteB l).length ≤ 2 * l.length := by
  induction l with
  | nil => simp [quoteB]
  | cons c r ih =>
    have := quoteC_len c
    simp only [quoteB, List.flatMap_cons, List.length_append, List.length_cons] at ih ⊢
    omega
theorem quoteB_ge (l : List UInt8) : l.length ≤ (quoteB l).length := by
  induction l with
  | nil => simp
  | cons c r ih =>
    have : 1 ≤ (quoteC c).length := by unfold quoteC; split <;> simp
    simp only [quoteB, List.flatMap_cons, List.length_append, List.length_cons] at ih ⊢
    omega
/-- What stands between quotes, read from behind the first one; acc: what was taken. -/
def unq (acc : List UInt8) : List UInt8 → List UInt8 × Bool
  | [] => ([], false)
  | [c] => if (c.toNat : Int) = 34 then (acc, true) else ([], false)
  | c :: d :: r => if (c.toNat : Int) = 34 then (acc, false) else if (c.toNat : Int) = 92 then unq (acc ++ [d]) r else unq (acc ++ [c]) (d :: r)
/-- A text between quotes: what it tells, and whether it does. -/
def unqT (l : List UInt8) : List UInt8 × Bool := if 2 ≤ l.length ∧ l.head? = some 34 ∧ plainL l = true then unq [] l.tail else ([], false)
theorem unq_end (acc r : List UInt8) (c : UInt8) (h : (c.toNat : Int) = 34) : unq acc (c :: r) = (acc, decide (r = [])) := by
  cases r with
  | nil => rw [unq, if_pos h]; rfl
  | cons d r => rw [unq, if_pos h]; simp
theorem unq_cut (acc : List UInt8) (c : UInt8) (h : (c.toNat : Int) = 92) : unq acc [c] = ([], false) := by
  rw [unq, if_neg (by omega)]
theorem unq_esc (acc r : List UInt8) (c d : UInt8) (h : (c.toNat : Int) = 92) : unq acc (c :: d :: r) = unq (acc ++ [d]) r := by
  rw [unq, if_neg (by omega), if_pos h]
theorem unq_take (acc r : List UInt8) (c : UInt8) (h1 : ¬ (c.toNat : Int) = 34) (h2 : ¬ (c.toNat : Int) = 92) : unq acc (c :: r) = unq (acc ++ [c]) r := by
  cases r with
  | nil => simp only [unq, if_neg h1]
  | cons d r => rw [unq, if_neg h1, if_neg h2]
/-- What was quoted is read as it was. -/
theorem unq_quote (l : List UInt8) : ∀ acc, unq acc (quoteB l ++ [34]) = (acc ++ l, true) := by
  induction l with
  | nil => intro acc; rw [show quoteB [] ++ [34] = [34] from rfl, unq_end _ _ _ (by decide)]; simp
  | cons c r ih =>
    intro acc
    have e : quoteB (c :: r) ++ [34] = quoteC c ++ (quoteB r ++ [34]) := by simp [quoteB]
    rw [e]
    by_cases h : (c.toNat : Int) = 34 ∨ (c.toNat : Int) = 92
    · rw [quoteC_yes h]
      show unq acc (92 :: c :: (quoteB r ++ [34])) = _
      rw [unq_esc _ _ _ _ (by decide), ih]; simp
    · rw [quoteC_no h]
      show unq acc (c :: (quoteB r ++ [34])) = _
      rw [unq_take _ _ _ (by omega) (by omega), ih]; simp
theorem plain_quoteB (l : List UInt8) (h : plainL l = true) : plainL (quoteB l) = true := by
  induction l with
  | nil => rfl
  | cons c r ih =>
    simp only [plainL, List.all_cons, Bool.and_eq_true] at h
    have e : quoteB (c :: r) = quoteC c ++ quoteB r := by simp [quoteB]
    rw [e]
    simp only [plainL, List.all_append, Bool.and_eq_true]
    refine ⟨?_, ih h.2⟩
    unfold quoteC
    split
    · simp [h.1]; decide
    · simp [h.1]
theorem unqT_quote (l : List UInt8) (h : plainL l = true) : unqT (quoteL l) = (l, true) := by
  have hp : plainL (quoteL l) = true := by
    simp only [quoteL, plainL, List.all_append, Bool.and_eq_true]
    exact ⟨⟨by decide, plain_quoteB l h⟩, by decide⟩
  unfold unqT
  rw [if_pos ⟨by simp [quoteL], rfl, hp⟩]
  show unq [] (quoteB l ++ [34]) = _
  rw [unq_quote]; simp
end Go.Proofs.YtgejegmilkmiiaaGreatDoor
/-
  Blanks at both ends: plainly. No Go in sight.
-/
namespace Go.Proofs.YtgejegmilkmiiaaGreatDoor
def blankI (c : Int) : Bool := c == 32 || c == 9
def trimT (s : ByteArray) : ByteArray := ⟨(Lib.trimS s.data.toList [32, 9]).toArray⟩
theorem contains_blank (b : UInt8) : [(32 : UInt8), 9].contains b = blankI (b.toNat : Int) := by
  rw [Bool.eq_iff_iff]
  simp [blankI, List.contains_eq_mem]
  constructor
  · rintro (rfl | rfl) <;> simp
  · rintro (h | h)
    · exact .inl (UInt8.toNat_inj.1 (by simpa using (by omega : b.toNat = 32)))
    · exact .inr (UInt8.toNat_inj.1 (by simpa using (by omega : b.toNat = 9)))
theorem trim_between (l : List UInt8) (k m : Nat) (hkm : k ≤ m) (hm : m ≤ l.length)
    (h1 : ∀ (j : Nat) b, j < k → l[j]? = some b → blankI (b.toNat : Int) = true) (h2 : ∀ b, k < l.length → l[k]? = some b → blankI (b.toNat : Int) = false)
    (h3 : ∀ (j : Nat) b, m ≤ j → l[j]? = some b → blankI (b.toNat : Int) = true) (h4 : ∀ b, k < m → l[m - 1]? = some b → blankI (b.toNat : Int) = false) :
    Lib.trimS l [32, 9] = (l.take m).drop k := by
  by_cases e : k < m
  · have er : Lib.trimRightS l [32, 9] = l.take m := by
      refine Lib.trimRightS_take l _ m hm (fun j b hj hb => ?_) (fun b _ hb => ?_)
      · rw [contains_blank]; exact h3 j b hj hb
      · rw [contains_blank]; exact h4 b e hb
    unfold Lib.trimS
    rw [er]
    refine Lib.trimLeftS_drop _ _ k (by simp; omega) (fun j b hj hb => ?_) (fun b hb => ?_)
    · rw [List.getElem?_take_of_lt (by omega)] at hb
      rw [contains_blank]; exact h1 j b hj hb
    · rw [List.getElem?_take_of_lt (by omega)] at hb
      rw [contains_blank]; exact h2 b (by omega) hb
  · obtain rfl : k = m := by omega
    have ek : k = l.length := by
      by_cases c : k < l.length
      · have a := h2 _ c (List.getElem?_eq_getElem c)
        have b := h3 k _ (Nat.le_refl _) (List.getElem?_eq_getElem c)
        rw [a] at b; cases b
      · omega
    have er : Lib.trimRightS l [32, 9] = l.take 0 := by
      refine Lib.trimRightS_take l _ 0 (Nat.zero_le _) (fun j b _ hb => ?_) (fun b h0 _ => absurd h0 (by omega))
      have hj : j < l.length := (List.getElem?_eq_some_iff.1 hb).1
      rw [contains_blank]; exact h1 j b (by omega) hb
    unfold Lib.trimS
    rw [er]
    simp [Lib.trimLeftS, ek]
theorem trim_extract (s : ByteArray) (k m : Nat) (h : Lib.trimS s.data.toList [32, 9] = (s.data.toList.take m).drop k) : s.extract k m = trimT s := by
  apply ByteArray.ext
  unfold trimT
  rw [h]
  apply Array.ext'
  simp [List.drop_take]
end Go.Proofs.YtgejegmilkmiiaaGreatDoor
/-
  A row of bytes in memory, and small letters: no function of the program in sight.
-/
namespace Go.Proofs.YtgejegmilkmiiaaGreatDoor
/-- The block B holds the bytes l from its head on, none of them frozen. -/
structure BRow (w : World) (B : Nat) (l : List UInt8) : Prop where
  cell : ∀ j (hj : j < l.length), w.cell? ⟨B, j, none⟩ = some (.int .u8 (l[j].toNat : Int))
  free : ∀ j, j < l.length → w.frozen? ⟨B, j, none⟩ = false
theorem BRow.set {w : World} {B : Nat} {l : List UInt8} (h : BRow w B l) (k : Nat) (x : UInt8) : BRow (w.setCell ⟨B, k, none⟩ (.int .u8 (x.toNat : Int))) B (l.set k x) := by
  constructor
  · intro j hj
    simp only [List.length_set] at hj
    by_cases e : k = j
    · subst e
      rw [World.cell?_setCell_same _ _ _ (h.cell k hj)]
      simp
    · rw [World.cell?_setCell_other _ _ _ _ (by intro h2; exact e (congrArg Addr.off h2)), h.cell j hj, List.getElem_set_ne e]
  · intro j hj
    simp only [List.length_set] at hj
    rw [World.frozen?_setCell]
    exact h.free j hj
/-- What a conversion from a text lays. -/
theorem BRow.made (w : World) (s : ByteArray) (cap : Nat) (C : Array Value) (hC : C = bytesRow s cap) : BRow (w.alloc (.cells C 5 (C.size, C.size + 1))) w.heap.size s.data.toList := by
  subst hC
  have hsz : s.data.size ≤ (bytesRow s cap).size := by simp [bytesRow]
  constructor
  · intro j hj
    have hj' : j < s.data.size := by simpa using hj
    rw [World.cell?_alloc_mark, bytesRow_at s cap j hj']
    simp
  · intro j hj
    have hj' : j < s.data.size := by simpa using hj
    rw [World.frozen?_alloc_mark]
    simp
    omega
theorem BRow.back {P : Program} {w : World} {B : Nat} {l : List UInt8} (h : BRow w B l) (src dst e : TypeId) (n cap : Nat) (hn : n = l.length) (hs : P.underlying src = some (.slice e)) (he : P.underlying e = some (.int .u8)) (hd : P.underlying dst = some .string) :
    (convert src dst (.slice (some ⟨B, 0, none⟩) n cap)).run P w = .ok (.string ⟨l.toArray⟩) w := by
  subst hn
  refine run_convert_bytes_back w src dst e ⟨B, 0, none⟩ cap l hs he hd ?_
  intro j hj
  have := h.cell j hj
  by_cases e : j = 0
  · subst e; simpa [Addr.add] using this
  · simpa [Addr.add, e] using this
def lowU (c : UInt8) : UInt8 := if 65 ≤ (c.toNat : Int) ∧ (c.toNat : Int) ≤ 90 then UInt8.ofNat (c.toNat + 32) else c
theorem lowU_yes (c : UInt8) (h1 : 65 ≤ (c.toNat : Int)) (h2 : (c.toNat : Int) ≤ 90) : ((lowU c).toNat : Int) = (c.toNat : Int) + 32 := by
  unfold lowU
  rw [if_pos ⟨h1, h2⟩]
  simp
  omega
theorem lowU_no (c : UInt8) (h : ¬ (65 ≤ (c.toNat : Int) ∧ (c.toNat : Int) ≤ 90)) : lowU c = c := by
  unfold lowU
  rw [if_neg h]
/-- The bytes behind k rounds. -/
def lowK (l : List UInt8) (k : Nat) : List UInt8 := (l.take k).map lowU ++ l.drop k
theorem lowK_zero (l : List UInt8) : lowK l 0 = l := by simp [lowK]
theorem lowK_all (l : List UInt8) (k : Nat) (h : l.length ≤ k) : lowK l k = l.map lowU := by
  simp [lowK, List.take_of_length_le h, List.drop_of_length_le h]
theorem lowK_length (l : List UInt8) (k : Nat) : (lowK l k).length = l.length := by simp [lowK]; omega
theorem lowK_at? (l : List UInt8) (k : Nat) (h : k < l.length) : (lowK l k)[k]? = some l[k] := by
  unfold lowK
  rw [List.getElem?_append_right (by simp; omega)]
  simp [Nat.min_eq_left (Nat.le_of_lt h)]
theorem lowK_at (l : List UInt8) (k : Nat) (h : k < l.length) (h' : k < (lowK l k).length) : (lowK l k)[k] = l[k] := by
  have := lowK_at? l k h
  rw [List.getElem?_eq_getElem h'] at this
  exact Option.some.inj this
theorem lowK_succ (l : List UInt8) (k : Nat) (h : k < l.length) : lowK l (k + 1) = (lowK l k).set k (lowU l[k]) := by
  have hm : min k l.length = k := Nat.min_eq_left (Nat.le_of_lt h)
  unfold lowK
  rw [List.take_succ_eq_append_getElem h, List.map_append, List.drop_eq_getElem_cons h]
  rw [List.set_append_right _ _ (by simp [hm])]
  simp only [List.length_map, List.length_take, hm, Nat.sub_self, List.set_cons_zero, List.map_cons, List.map_nil, List.append_assoc, List.cons_append, List.nil_append]
theorem lowK_keep (l : List UInt8) (k : Nat) (h : k < l.length) (hn : ¬ (65 ≤ (l[k].toNat : Int) ∧ (l[k].toNat : Int) ≤ 90)) : lowK l (k + 1) = lowK l k := by
  have h2 : k < (lowK l k).length := by rw [lowK_length]; exact h
  rw [lowK_succ l k h, lowU_no _ hn, ← lowK_at l k h h2, List.set_getElem_self]
end Go.Proofs.YtgejegmilkmiiaaGreatDoor
/-
  What the model's l1Lower answers.
-/
namespace Go.Proofs.YtgejegmilkmiiaaGreatDoor
open Go.ChangeShapes Go.WideShapes Go.ChangeAt Go.RowKit
def lowS (s : ByteArray) : ByteArray := ⟨(s.data.toList.map lowU).toArray⟩
set_option maxHeartbeats 1000000 in
theorem l1Lower_any (s : ByteArray) (w : World) (hs : s.size ≤ 1048576) :
    Calls Tryz.prog 148 #[.string s] w fun e w' => e = .returned (.string (lowS s)) ∧ Below w.heap.size w w' := by
  obtain ⟨C, cap, hcv, hrow⟩ : ∃ C cap, (convert 9 22 (.string s)).run Tryz.prog w = .ok (.slice (some ⟨w.heap.size, 0, none⟩) s.size cap) (w.drew.alloc (.cells C 5 (C.size, C.size + 1))) ∧ BRow (w.alloc (.cells C 5 (C.size, C.size + 1))) w.heap.size s.data.toList :=
    ⟨_, _, run_bytes_of_string w 9 22 5 s Tryz.underlying9 Tryz.underlying22 Tryz.underlying5, BRow.made w s _ _ rfl⟩
  go_enter Tryz.func148, Tryz.ntmps148
  go_wp2
  go_loopw [4] (fun i wr => ∃ k : Nat, k ≤ s.size ∧ i = .int .i64 k ∧ BRow wr w.heap.size (lowK s.data.toList k) ∧ Below w.heap.size w wr) (fun i _ => s.size - (intOf i).toNat)
  case atStart => exact ⟨0, Nat.zero_le _, rfl, by rw [lowK_zero]; exact ⟨hrow.cell, hrow.free⟩, ((Below.refl _ _).alloc (Nat.le_refl _) _).drew⟩
  case round =>
    obtain ⟨k, hk, rfl, hr, hb⟩ := hrel
    clear hcv hrow
    have hlen := lowK_length s.data.toList k
    by_cases hlt : k < s.size
    · have hl : k < s.data.toList.length := by simpa using hlt
      have hl2 : k < (lowK s.data.toList k).length := by omega
      have hc := hr.cell k hl2
      have hf := hr.free k hl2
      rw [lowK_at _ _ hl hl2] at hc
      have Y : Hid (65 ≤ (s.data.toList[k].toNat : Int) ∧ (s.data.toList[k].toNat : Int) ≤ 90 → BRow (wr.setCell ⟨w.heap.size, k, none⟩ (.int .u8 ((s.data.toList[k].toNat : Int) + 32))) w.heap.size (lowK s.data.toList (k + 1))) := by
        intro ⟨u1, u2⟩
        have := hr.set k (lowU s.data.toList[k])
        rw [lowU_yes _ u1 u2] at this
        rw [lowK_succ _ _ hl]
        exact this
      have N : Hid (¬ (65 ≤ (s.data.toList[k].toNat : Int) ∧ (s.data.toList[k].toNat : Int) ≤ 90) → BRow wr w.heap.size (lowK s.data.toList (k + 1))) := by
        intro u
        rw [lowK_keep _ _ hl u]
        exact hr
      generalize s.data.toList[k] = x at *
      clear hr hlen hl2 hl
      by_cases hU : 65 ≤ (x.toNat : Int) ∧ (x.toNat : Int) ≤ 90
      · have R : Hid (BRow (wr.setCell ⟨w.heap.size, k, none⟩ (.int .u8 ((x.toNat : Int) + 32))) w.heap.size (lowK s.data.toList (k + 1))) := Y.out hU
        obtain ⟨u1, u2⟩ := hU
        have d2 : decide ((x.toNat : Int) ≤ 90) = true := by simpa using u2
        clear Y N
        go_wp2
        go_roundw
        case rel => exact ⟨k + 1, by omega, by go_num, R.out, hb.setCell (Nat.le_refl _) _⟩
        case measure => simp [intOf]; omega
      · have R : Hid (BRow wr w.heap.size (lowK s.data.toList (k + 1))) := N.out hU
        clear Y N
        by_cases u1 : 65 ≤ (x.toNat : Int)
        · have u2 : 90 < (x.toNat : Int) := by omega
          have d2 : decide ((x.toNat : Int) ≤ 90) = false := by simp; omega
          clear hU
          go_wp2
          go_roundw
          case rel => exact ⟨k + 1, by omega, by go_num, R.out, hb⟩
          case measure => simp [intOf]; omega
        · clear hU
          go_wp2
          go_roundw
          case rel => exact ⟨k + 1, by omega, by go_num, R.out, hb⟩
          case measure => simp [intOf]; omega
    · have e : lowK s.data.toList k = s.data.toList.map lowU := lowK_all _ _ (by simp; omega)
      rw [e] at hr
      have hback := hr.back (P := Tryz.prog) 22 9 5 s.size cap (by simp) Tryz.underlying22 Tryz.underlying5 Tryz.underlying9
      have HL : Hid ((⟨(s.data.toList.map lowU).toArray⟩ : ByteArray) = lowS s) := rfl
      generalize (⟨(s.data.toList.map lowU).toArray⟩ : ByteArray) = r at *
      clear hr e hlen
      go_wp2
      go_ret
      exact ⟨ret_str HL.out, hb⟩
end Go.Proofs.YtgejegmilkmiiaaGreatDoor
/-
  Head lines, plainly: their faults, their text, how they are found, set and dropped. No Go in sight.
-/
namespace Go.Proofs.YtgejegmilkmiiaaGreatDoor
def faultH (r : Hdr) : Int := if wordS r.name = false then 5 else if 200 < r.value.size then 2 else if plainL r.value.data.toList = false then 5 else if trimT r.value = r.value then 0 else 5
def faultHL : List Hdr → Int
  | [] => 0
  | r :: l => if faultH r = 0 then faultHL l else faultH r
theorem faultHL_ok {r : Hdr} {l : List Hdr} (h : faultH r = 0) : faultHL (r :: l) = faultHL l := by rw [faultHL, if_pos h]
theorem faultHL_bad {r : Hdr} {l : List Hdr} (h : faultH r ≠ 0) : faultHL (r :: l) = faultH r := by rw [faultHL, if_neg h]
def headsC (l : List Hdr) : Int := if 20 < l.length then 2 else faultHL l
theorem headsC_many {l : List Hdr} (h : 20 < l.length) : headsC l = 2 := by unfold headsC; rw [if_pos h]
theorem headsC_few {l : List Hdr} (h : ¬ 20 < l.length) : headsC l = faultHL l := by unfold headsC; rw [if_neg h]
theorem faultH_zero {r : Hdr} (h : faultH r = 0) : wordS r.name = true ∧ r.value.size ≤ 200 ∧ plainL r.value.data.toList = true ∧ trimT r.value = r.value := by
  unfold faultH at h
  by_cases c1 : wordS r.name = false
  · rw [if_pos c1] at h; omega
  rw [if_neg c1] at h
  by_cases c2 : 200 < r.value.size
  · rw [if_pos c2] at h; omega
  rw [if_neg c2] at h
  by_cases c3 : plainL r.value.data.toList = false
  · rw [if_pos c3] at h; omega
  rw [if_neg c3] at h
  by_cases c4 : trimT r.value = r.value
  · exact ⟨by simpa using c1, by omega, by simpa using c3, c4⟩
  · rw [if_neg c4] at h; omega
theorem faultHL_zero (l : List Hdr) (h : faultHL l = 0) : ∀ (i : Nat) r, l[i]? = some r → faultH r = 0 := by
  induction l with
  | nil => intro i r hr; simp at hr
  | cons x l ih =>
    intro i r hr
    by_cases c : faultH x = 0
    · rw [faultHL_ok c] at h
      cases i with
      | zero => simp at hr; subst hr; exact c
      | succ i => exact ih h i r (by simpa using hr)
    · rw [faultHL_bad c] at h; exact absurd h c
theorem faultHL_of (l : List Hdr) (h : ∀ r ∈ l, faultH r = 0) : faultHL l = 0 := by
  induction l with
  | nil => rfl
  | cons x l ih => rw [faultHL_ok (h x (by simp))]; exact ih fun r hr => h r (by simp [hr])
theorem headsC_zero {l : List Hdr} (h : headsC l = 0) : l.length ≤ 20 ∧ ∀ (i : Nat) r, l[i]? = some r → faultH r = 0 := by
  by_cases c : 20 < l.length
  · rw [headsC_many c] at h; omega
  · rw [headsC_few c] at h; exact ⟨by omega, faultHL_zero l h⟩
theorem hword_max {s : ByteArray} (h : wordS s = true) : s.size ≤ 64 := by
  by_cases c : 64 < s.size
  · rw [wordS_long s c] at h; cases h
  · omega
theorem take_hdr {l : List Hdr} {k : Nat} {r : Hdr} (h : l[k]? = some r) : l.take (k + 1) = l.take k ++ [r] := by rw [List.take_add_one, h]; rfl
theorem happ_list (a b : ByteArray) : (a ++ b).data.toList = a.data.toList ++ b.data.toList := by simp
theorem hof_list {a : ByteArray} {l : List UInt8} (h : a.data.toList = l) : a = ⟨l.toArray⟩ := by subst h; cases a; simp
theorem hret_ct {a b : Int} {s t : ByteArray} (h : a = b ∧ s = t) : Ending.returned (.agg #[.int .i64 b, .string t]) = .returned (.agg #[.int .i64 a, .string s]) := by rw [h.1, h.2]
/-! ### their text -/
def lineL (r : Hdr) : List UInt8 := r.name.data.toList ++ [58, 32] ++ r.value.data.toList ++ [13, 10]
def packL (l : List Hdr) : List UInt8 := l.flatMap lineL
theorem packL_take {l : List Hdr} {k : Nat} {r : Hdr} (h : l[k]? = some r) : packL (l.take (k + 1)) = packL (l.take k) ++ lineL r := by rw [take_hdr h]; simp [packL]
theorem lineL_len {r : Hdr} (h : faultH r = 0) : (lineL r).length ≤ 268 := by
  obtain ⟨h1, h2, _⟩ := faultH_zero h
  have := hword_max h1
  have e1 : r.name.data.toList.length = r.name.size := by simp
  have e2 : r.value.data.toList.length = r.value.size := by simp
  simp only [lineL, List.length_append, List.length_cons, List.length_nil]
  omega
def packT (l : List Hdr) : ByteArray := if headsC l = 0 then ⟨(packL l).toArray⟩ else ⟨#[]⟩
theorem packT_ok {l : List Hdr} (h : headsC l = 0) : packT l = ⟨(packL l).toArray⟩ := by unfold packT; rw [if_pos h]
theorem packT_bad {l : List Hdr} (h : headsC l ≠ 0) : packT l = ⟨#[]⟩ := by unfold packT; rw [if_neg h]
/-! ### names that are alike -/
def askC (l : List Hdr) (name : ByteArray) : Int := if headsC l = 0 then (if wordS name = true then 0 else 5) else headsC l
theorem askC_bad {l : List Hdr} {name : ByteArray} (h : headsC l ≠ 0) : askC l name = headsC l := by unfold askC; rw [if_neg h]
theorem askC_word {l : List Hdr} {name : ByteArray} (h : headsC l = 0) (hw : wordS name = true) : askC l name = 0 := by unfold askC; rw [if_pos h, if_pos hw]
theorem askC_text {l : List Hdr} {name : ByteArray} (h : headsC l = 0) (hw : wordS name = false) : askC l name = 5 := by unfold askC; rw [if_pos h, if_neg (by rw [hw]; decide)]
theorem askC_zero {l : List Hdr} {name : ByteArray} (h : askC l name = 0) : headsC l = 0 ∧ wordS name = true := by
  by_cases c : headsC l = 0
  · cases hw : wordS name
    · rw [askC_text c hw] at h; omega
    · exact ⟨c, rfl⟩
  · rw [askC_bad c] at h; exact absurd h c
/-- The values of all lines whose name, in small letters, is x. -/
def valsOf (x : ByteArray) (l : List Hdr) : List ByteArray := (l.filter fun r => decide (lowS r.name = x)).map (·.value)
theorem valsOf_yes {x : ByteArray} {r : Hdr} (l : List Hdr) (h : lowS r.name = x) : valsOf x (l ++ [r]) = valsOf x l ++ [r.value] := by simp [valsOf, h]
theorem valsOf_no {x : ByteArray} {r : Hdr} (l : List Hdr) (h : ¬ lowS r.name = x) : valsOf x (l ++ [r]) = valsOf x l := by simp [valsOf, h]
def hjoinL (vs : List ByteArray) : List UInt8 := Lib.join (vs.map (·.data.toList)) [44, 32]
theorem hjoinL_snoc (vs : List ByteArray) (v : ByteArray) : hjoinL (vs ++ [v]) = hjoinL vs ++ (if vs = [] then [] else [44, 32]) ++ v.data.toList := by
  unfold hjoinL
  cases vs with
  | nil => simp [Lib.join, List.intercalate]
  | cons a r =>
    rw [List.map_append, List.map_cons, List.cons_append, Lib.join_cons, Lib.join_cons]
    simp [Lib.joinTail]
def joinC (l : List Hdr) (name : ByteArray) : Int := if askC l name = 0 then (if valsOf (lowS name) l = [] then 4 else 0) else askC l name
def joinT (l : List Hdr) (name : ByteArray) : ByteArray := if joinC l name = 0 then ⟨(hjoinL (valsOf (lowS name) l)).toArray⟩ else ⟨#[]⟩
theorem join_bad {l : List Hdr} {name : ByteArray} (h : askC l name ≠ 0) : joinC l name = askC l name ∧ joinT l name = ⟨#[]⟩ := by
  have e : joinC l name = askC l name := by unfold joinC; rw [if_neg h]
  exact ⟨e, by unfold joinT; rw [if_neg (by rw [e]; exact h)]⟩
theorem join_none {l : List Hdr} {name : ByteArray} (h : askC l name = 0) (hv : valsOf (lowS name) l = []) : joinC l name = 4 ∧ joinT l name = ⟨#[]⟩ := by
  have e : joinC l name = 4 := by unfold joinC; rw [if_pos h, if_pos hv]
  exact ⟨e, by unfold joinT; rw [if_neg (by rw [e]; decide)]⟩
theorem join_some {l : List Hdr} {name : ByteArray} (h : askC l name = 0) (hv : valsOf (lowS name) l ≠ []) : joinC l name = 0 ∧ joinT l name = ⟨(hjoinL (valsOf (lowS name) l)).toArray⟩ := by
  have e : joinC l name = 0 := by unfold joinC; rw [if_pos h, if_neg hv]
  exact ⟨e, by unfold joinT; rw [if_pos e]⟩
/-- What is left without the lines whose name, in small letters, is x. -/
def dropH (x : ByteArray) (l : List Hdr) : List Hdr := l.filter fun r => decide (¬ lowS r.name = x)
theorem dropH_yes {x : ByteArray} {r : Hdr} (l : List Hdr) (h : lowS r.name = x) : dropH x (l ++ [r]) = dropH x l := by simp [dropH, h]
theorem dropH_no {x : ByteArray} {r : Hdr} (l : List Hdr) (h : ¬ lowS r.name = x) : dropH x (l ++ [r]) = dropH x l ++ [r] := by simp [dropH, h]
theorem dropH_len (x : ByteArray) (l : List Hdr) : (dropH x l).length ≤ l.length := List.length_filter_le _ _
def dropL (l : List Hdr) (name : ByteArray) : List Hdr := if askC l name = 0 then dropH (lowS name) l else []
/-- Where the first line of that name stands. -/
def firstAt (x : ByteArray) : List Hdr → Option Nat
  | [] => none
  | r :: l => if lowS r.name = x then some 0 else (firstAt x l).map (· + 1)
theorem firstAt_none {x : ByteArray} : ∀ {l : List Hdr}, firstAt x l = none → ∀ r ∈ l, ¬ lowS r.name = x
  | [], _, r, hr => by simp at hr
  | y :: l, h, r, hr => by
    by_cases c : lowS y.name = x
    · rw [firstAt, if_pos c] at h; cases h
    · rw [firstAt, if_neg c] at h
      rcases List.mem_cons.1 hr with rfl | hr
      · exact c
      · exact firstAt_none (Option.map_eq_none_iff.1 h) r hr
theorem firstAt_lt {x : ByteArray} : ∀ {l : List Hdr} {i : Nat}, firstAt x l = some i → i < l.length
  | [], i, h => by simp [firstAt] at h
  | y :: l, i, h => by
    by_cases c : lowS y.name = x
    · rw [firstAt, if_pos c] at h; obtain rfl := Option.some.inj h; simp
    · rw [firstAt, if_neg c] at h
      obtain ⟨j, hj, rfl⟩ := Option.map_eq_some_iff.1 h
      have := firstAt_lt hj
      simp only [List.length_cons]; omega
theorem firstAt_snoc {x : ByteArray} (r : Hdr) : ∀ (l : List Hdr), firstAt x (l ++ [r]) = match firstAt x l with | some i => some i | none => if lowS r.name = x then some l.length else none
  | [] => by simp [firstAt]
  | y :: l => by
    by_cases c : lowS y.name = x
    · simp [firstAt, c]
    · simp only [List.cons_append, firstAt, if_neg c]
      rw [firstAt_snoc r l]
      cases firstAt x l with
      | some i => rfl
      | none => simp only [Option.map_none]; split <;> simp
theorem valsOf_first {x : ByteArray} : ∀ {l : List Hdr}, valsOf x l = [] ↔ firstAt x l = none
  | [] => by simp [valsOf, firstAt]
  | y :: l => by
    by_cases c : lowS y.name = x
    · simp [valsOf, firstAt, c]
    · have := @valsOf_first x l
      simp only [valsOf] at this
      simp only [valsOf, firstAt, List.filter_cons, c, decide_false, Bool.false_eq_true, if_false, this, Option.map_eq_none_iff]
theorem valsOf_drop {x : ByteArray} : ∀ {l : List Hdr} {i : Nat}, firstAt x l = some i → valsOf x (l.drop i) = valsOf x l ∧ valsOf x (l.take i) = []
  | [], i, h => by simp [firstAt] at h
  | y :: l, i, h => by
    by_cases c : lowS y.name = x
    · rw [firstAt, if_pos c] at h; obtain rfl := Option.some.inj h; simp [valsOf]
    · rw [firstAt, if_neg c] at h
      obtain ⟨j, hj, rfl⟩ := Option.map_eq_some_iff.1 h
      have := valsOf_drop hj
      simp only [valsOf] at this
      simp only [valsOf, List.drop_succ_cons, List.take_succ_cons, List.filter_cons, c, decide_false, Bool.false_eq_true, if_false]
      exact this
/-- A line set. -/
def setGo (h : Hdr) : Bool → List Hdr → List Hdr
  | done, [] => if done = true then [] else [h]
  | done, r :: l => if lowS r.name = lowS h.name then (if done = true then setGo h true l else h :: setGo h true l) else r :: setGo h done l
theorem setGo_done (h : Hdr) : ∀ l : List Hdr, setGo h true l = dropH (lowS h.name) l
  | [] => by simp [setGo, dropH]
  | r :: l => by
    have ih := setGo_done h l
    by_cases c : lowS r.name = lowS h.name
    · simp only [setGo, if_true, ih, dropH, List.filter_cons, c, not_true_eq_false, decide_false, Bool.false_eq_true, if_false]
    · simp [setGo, ih, dropH, c]
theorem setGo_first (h : Hdr) : ∀ (l : List Hdr), setGo h false l = match firstAt (lowS h.name) l with
    | some i => (dropH (lowS h.name) l).take i ++ [h] ++ (dropH (lowS h.name) l).drop i
    | none => dropH (lowS h.name) l ++ [h]
  | [] => by simp [setGo, firstAt, dropH]
  | r :: l => by
    have ih := setGo_first h l
    by_cases c : lowS r.name = lowS h.name
    · simp only [setGo, firstAt, setGo_done, dropH, List.filter_cons, c, not_true_eq_false, decide_false, Bool.false_eq_true, if_false]
      simp
    · simp only [setGo, if_neg c, firstAt]
      rw [ih]
      have e : dropH (lowS h.name) (r :: l) = r :: dropH (lowS h.name) l := by simp [dropH, c]
      rw [e]
      cases firstAt (lowS h.name) l with
      | none => simp
      | some i => simp
theorem dropH_all {x : ByteArray} {l : List Hdr} (h : firstAt x l = none) : dropH x l = l := by
  unfold dropH
  rw [List.filter_eq_self]
  intro r hr
  simpa using firstAt_none h r hr
theorem setGo_len (h : Hdr) (l : List Hdr) : (setGo h false l).length = match firstAt (lowS h.name) l with | some _ => (dropH (lowS h.name) l).length + 1 | none => l.length + 1 := by
  rw [setGo_first]
  cases c : firstAt (lowS h.name) l with
  | none => simp [dropH_all c]
  | some i =>
    simp only [List.length_append, List.length_cons, List.length_nil, List.length_take, List.length_drop]
    omega
theorem dropH_lt {x : ByteArray} {i : Nat} : ∀ {l : List Hdr}, firstAt x l = some i → (dropH x l).length < l.length
  | [], h => by simp [firstAt] at h
  | r :: l, h => by
    by_cases c : lowS r.name = x
    · have := dropH_len x l
      simp only [dropH] at this
      simp only [dropH, List.filter_cons, c, not_true_eq_false, decide_false, Bool.false_eq_true, if_false, List.length_cons]
      omega
    · rw [firstAt, if_neg c] at h
      obtain ⟨j, hj, rfl⟩ := Option.map_eq_some_iff.1 h
      have := dropH_lt hj
      simp only [dropH] at this
      simp only [dropH, List.filter_cons, c, not_false_eq_true, decide_true, if_true, List.length_cons]
      omega
def setC (l : List Hdr) (h : Hdr) : Int := if askC l h.name = 0 then (if faultH h = 0 then (if 20 < (setGo h false l).length then 2 else 0) else faultH h) else askC l h.name
def setL (l : List Hdr) (h : Hdr) : List Hdr := if setC l h = 0 then setGo h false l else []
end Go.Proofs.YtgejegmilkmiiaaGreatDoor
/-
  Requests and responses, plainly: their faults. No Go in sight.
-/
namespace Go.Proofs.YtgejegmilkmiiaaGreatDoor
def allP (p : Int → Bool) (l : List UInt8) : Bool := l.all fun c => p (c.toNat : Int)
theorem allP_snoc (p : Int → Bool) (l : List UInt8) (c : UInt8) : allP p (l ++ [c]) = (allP p l && p (c.toNat : Int)) := by simp [allP]
theorem allP_of_take (p : Int → Bool) (l : List UInt8) (k : Nat) (h : allP p (l.take k) = false) : allP p l = false := by
  have e := List.take_append_drop k l
  rw [← e]
  simp only [allP] at h ⊢
  rw [List.all_append, h, Bool.false_and]
theorem allP_not (p : Int → Bool) (s : ByteArray) (k : Nat) (h : k < s.size) (hd : p (s[k].toNat : Int) = false) : allP p s.data.toList = false := by
  refine allP_of_take p _ (k + 1) ?_
  rw [take_snoc s k h, allP_snoc, hd, Bool.and_false]
theorem allP_mem {p : Int → Bool} {l : List UInt8} (h : allP p l = true) : ∀ c ∈ l, p (c.toNat : Int) = true := by
  simpa [allP] using h
theorem allP_of_mem {p : Int → Bool} {l : List UInt8} (h : ∀ c ∈ l, p (c.toNat : Int) = true) : allP p l = true := by
  simpa [allP] using h
def hostI (c : Int) : Bool := (decide (97 ≤ c) && decide (c ≤ 122)) || (decide (65 ≤ c) && decide (c ≤ 90)) || (decide (48 ≤ c) && decide (c ≤ 57)) || decide (c = 46) || decide (c = 45)
theorem hostI_big (c : Int) (h : 128 ≤ c) : hostI c = false := by
  simp [hostI]; omega
def markI (c : Nat) : Bool := [47, 63, 61, 38, 58, 64, 44, 59, 40, 41].contains c
def pathI (c : Int) : Bool := markI c.toNat || wordI c
theorem pathI_big (c : Int) (h : 128 ≤ c) : pathI c = false := by
  have e : markI c.toNat = false := by
    have : 128 ≤ c.toNat := by omega
    simp [markI]; omega
  rw [pathI, e, wordI_big c h]; rfl
def hostS (s : ByteArray) : Bool := decide (1 ≤ s.size) && decide (s.size ≤ 60) && allP hostI s.data.toList
theorem hostS_short (s : ByteArray) (h : s.size < 1) : hostS s = false := by simp [hostS]; omega
theorem hostS_long (s : ByteArray) (h : 60 < s.size) : hostS s = false := by simp [hostS]; omega
theorem hostS_mid (s : ByteArray) (h1 : 1 ≤ s.size) (h2 : s.size ≤ 60) : hostS s = allP hostI s.data.toList := by simp [hostS, h1, h2]
def pathS (s : ByteArray) : Bool := decide (s.data.toList.head? = some 47) && decide (s.size ≤ 100) && allP pathI s.data.toList
theorem pathS_first (s : ByteArray) (h : ¬ s.data.toList.head? = some 47) : pathS s = false := by simp [pathS, h]
theorem pathS_long (s : ByteArray) (h : 100 < s.size) : pathS s = false := by
  have : ¬ s.size ≤ 100 := by omega
  simp [pathS, this]
theorem pathS_mid (s : ByteArray) (h1 : s.data.toList.head? = some 47) (h2 : s.size ≤ 100) : pathS s = allP pathI s.data.toList := by simp [pathS, h1, h2]
theorem head_get (s : ByteArray) (h : 0 < s.size) : s.data.toList.head? = some s[0] := by
  rw [List.head?_eq_getElem?, List.getElem?_eq_getElem (by simpa using h)]; rfl
theorem head_none (s : ByteArray) (h : s.size < 1) : s.data.toList.head? = none := by
  have : s.data.toList = [] := List.eq_nil_of_length_eq_zero (by rw [Array.length_toList]; exact Nat.lt_one_iff.1 h)
  rw [this]; rfl
def getT : ByteArray := ⟨#[71, 69, 84]⟩
def headT : ByteArray := ⟨#[72, 69, 65, 68]⟩
def hostN : ByteArray := ⟨#[104, 111, 115, 116]⟩
def methS (m : ByteArray) : Bool := decide (m = getT) || decide (m = headT)
def lineS (m h p : ByteArray) : Bool := methS m && hostS h && pathS p
def restC (l : List Hdr) : Int := if headsC l = 0 then (if valsOf hostN l = [] then (if 20 ≤ l.length then 2 else 0) else 6) else headsC l
def reqC (m h p : ByteArray) (l : List Hdr) : Int := if lineS m h p = true then restC l else 5
theorem reqC_bad {m h p : ByteArray} {l : List Hdr} (c : lineS m h p = false) : reqC m h p l = 5 := by rw [reqC, if_neg (by rw [c]; decide)]
theorem reqC_ok {m h p : ByteArray} {l : List Hdr} (c : lineS m h p = true) : reqC m h p l = restC l := by rw [reqC, if_pos c]
theorem restC_heads {l : List Hdr} (h : headsC l ≠ 0) : restC l = headsC l := by rw [restC, if_neg h]
theorem restC_host {l : List Hdr} (h : headsC l = 0) (hv : valsOf hostN l ≠ []) : restC l = 6 := by rw [restC, if_pos h, if_neg hv]
theorem restC_many {l : List Hdr} (h : headsC l = 0) (hv : valsOf hostN l = []) (hn : 20 ≤ l.length) : restC l = 2 := by rw [restC, if_pos h, if_pos hv, if_pos hn]
theorem restC_ok {l : List Hdr} (h : headsC l = 0) (hv : valsOf hostN l = []) (hn : ¬ 20 ≤ l.length) : restC l = 0 := by rw [restC, if_pos h, if_pos hv, if_neg hn]
theorem headsC_codes (l : List Hdr) : headsC l = 0 ∨ headsC l = 2 ∨ headsC l = 5 := by
  have h1 : ∀ r, faultH r = 0 ∨ faultH r = 2 ∨ faultH r = 5 := fun r => by
    unfold faultH
    repeat' split
    all_goals simp
  have h2 : ∀ l, faultHL l = 0 ∨ faultHL l = 2 ∨ faultHL l = 5 := fun l => by
    induction l with
    | nil => exact .inl rfl
    | cons r l ih =>
      by_cases c : faultH r = 0
      · rw [faultHL_ok c]; exact ih
      · rw [faultHL_bad c]; exact h1 r
  by_cases c : 20 < l.length
  · rw [headsC_many c]; simp
  · rw [headsC_few c]; exact h2 l
theorem restC_codes (l : List Hdr) : restC l = 0 ∨ restC l = 2 ∨ restC l = 5 ∨ restC l = 6 := by
  have := headsC_codes l
  unfold restC
  repeat' split
  all_goals omega
theorem reqC_codes (m h p : ByteArray) (l : List Hdr) : reqC m h p l = 0 ∨ reqC m h p l = 2 ∨ reqC m h p l = 5 ∨ reqC m h p l = 6 := by
  have := restC_codes l
  unfold reqC
  split <;> omega
/-- A request that has no fault. -/
theorem reqC_zero {m h p : ByteArray} {l : List Hdr} (c : reqC m h p l = 0) : lineS m h p = true ∧ headsC l = 0 ∧ valsOf hostN l = [] ∧ l.length < 20 := by
  cases hl : lineS m h p
  · rw [reqC_bad hl] at c; omega
  rw [reqC_ok hl] at c
  by_cases c1 : headsC l = 0
  · by_cases c2 : valsOf hostN l = []
    · by_cases c3 : 20 ≤ l.length
      · rw [restC_many c1 c2 c3] at c; omega
      · exact ⟨rfl, c1, c2, by omega⟩
    · rw [restC_host c1 c2] at c; omega
  · rw [restC_heads c1] at c; exact absurd c c1
theorem lineS_true {m h p : ByteArray} (c : lineS m h p = true) : methS m = true ∧ hostS h = true ∧ pathS p = true := by
  simp only [lineS, Bool.and_eq_true] at c; exact ⟨c.1.1, c.1.2, c.2⟩
def respC (s : Int) (l : List Hdr) (n : Nat) : Int := if s < 200 ∨ 599 < s then 3 else if headsC l = 0 then (if 2000 < n then 2 else 0) else headsC l
theorem respC_range {s : Int} {l : List Hdr} {n : Nat} (h : s < 200 ∨ 599 < s) : respC s l n = 3 := by rw [respC, if_pos h]
theorem respC_heads {s : Int} {l : List Hdr} {n : Nat} (h : ¬ (s < 200 ∨ 599 < s)) (h1 : headsC l ≠ 0) : respC s l n = headsC l := by rw [respC, if_neg h, if_neg h1]
theorem respC_many {s : Int} {l : List Hdr} {n : Nat} (h : ¬ (s < 200 ∨ 599 < s)) (h1 : headsC l = 0) (h2 : 2000 < n) : respC s l n = 2 := by rw [respC, if_neg h, if_pos h1, if_pos h2]
theorem respC_ok {s : Int} {l : List Hdr} {n : Nat} (h : ¬ (s < 200 ∨ 599 < s)) (h1 : headsC l = 0) (h2 : ¬ 2000 < n) : respC s l n = 0 := by rw [respC, if_neg h, if_pos h1, if_neg h2]
theorem respC_codes (s : Int) (l : List Hdr) (n : Nat) : respC s l n = 0 ∨ respC s l n = 2 ∨ respC s l n = 3 ∨ respC s l n = 5 := by
  have := headsC_codes l
  unfold respC
  repeat' split
  all_goals omega
theorem respC_zero {s : Int} {l : List Hdr} {n : Nat} (c : respC s l n = 0) : 200 ≤ s ∧ s ≤ 599 ∧ headsC l = 0 ∧ n ≤ 2000 := by
  by_cases c1 : s < 200 ∨ 599 < s
  · rw [respC_range c1] at c; omega
  by_cases c2 : headsC l = 0
  · by_cases c3 : 2000 < n
    · rw [respC_many c1 c2 c3] at c; omega
    · exact ⟨by omega, by omega, c2, by omega⟩
  · rw [respC_heads c1 c2] at c; exact absurd c c2
end Go.Proofs.YtgejegmilkmiiaaGreatDoor
/-
  PolicyFault, on both sides; policies that lie in memory.
-/
namespace Go.Proofs.YtgejegmilkmiiaaGreatDoor
open Go.ChangeShapes Go.WideShapes Go.ChangeAt Go.RowKit
/-- A policy in memory. -/
structure PolAt (w : World) (b : Nat) (b0 b1 b2 : Bool) (l s e g : Int) : Prop where
  c0 : w.cell? ⟨b, 0, none⟩ = some (.bool b0)
  c1 : w.cell? ⟨b, 1, none⟩ = some (.bool b1)
  c2 : w.cell? ⟨b, 2, none⟩ = some (.bool b2)
  c3 : w.cell? ⟨b, 3, none⟩ = some (.int .i64 l)
  c4 : w.cell? ⟨b, 4, none⟩ = some (.int .i64 s)
  c5 : w.cell? ⟨b, 5, none⟩ = some (.int .i64 e)
  c6 : w.cell? ⟨b, 6, none⟩ = some (.int .i64 g)
  fr : ∀ o, w.frozen? ⟨b, o, none⟩ = false
  lt : b < w.heap.size
theorem PolAt.keep {w w' : World} {b : Nat} {b0 b1 b2 : Bool} {l s e g : Int} (k : PolAt w b b0 b1 b2 l s e g) (hb : Below w.heap.size w w') : PolAt w' b b0 b1 b2 l s e g :=
  ⟨by rw [hb.cell (p := ⟨b, 0, none⟩) k.lt]; exact k.c0, by rw [hb.cell (p := ⟨b, 1, none⟩) k.lt]; exact k.c1, by rw [hb.cell (p := ⟨b, 2, none⟩) k.lt]; exact k.c2, by rw [hb.cell (p := ⟨b, 3, none⟩) k.lt]; exact k.c3, by rw [hb.cell (p := ⟨b, 4, none⟩) k.lt]; exact k.c4, by rw [hb.cell (p := ⟨b, 5, none⟩) k.lt]; exact k.c5, by rw [hb.cell (p := ⟨b, 6, none⟩) k.lt]; exact k.c6,
    fun o => by rw [hb.frozen (p := ⟨b, o, none⟩) k.lt]; exact k.fr o, Nat.lt_of_lt_of_le k.lt hb.size⟩
theorem PolAt.new (w : World) (b0 b1 b2 : Bool) (l s e g : Int) (t : TypeId) : PolAt (w.alloc (.cells #[.bool b0, .bool b1, .bool b2, .int .i64 l, .int .i64 s, .int .i64 e, .int .i64 g] t)) w.heap.size b0 b1 b2 l s e g :=
  ⟨by simp, by simp, by simp, by simp, by simp, by simp, by simp, fun o => by simp, by simp⟩
def timeB (x : Int) : Bool := decide (0 ≤ x) && decide (x ≤ 1000000000000000)
theorem timeB_yes {x : Int} (h0 : 0 ≤ x) (h1 : x ≤ 1000000000000000) : timeB x = true := by simp [timeB, h0, h1]
theorem timeB_of {x : Int} (h : timeB x = true) : 0 ≤ x ∧ x ≤ 1000000000000000 := by simpa [timeB] using h
theorem l1Time_all (x : Int) (w : World) : Calls Tryz.prog 57 #[.int .i64 x] w fun r w' => r = .returned (.bool (timeB x)) ∧ w' = w := by
  by_cases c1 : 0 ≤ x
  · by_cases c2 : x ≤ 1000000000000000
    · rw [timeB_yes c1 c2]
      have d2 : decide (x ≤ 1000000000000000) = true := by simp; omega
      go_enter Tryz.func57, Tryz.ntmps57
      go_wp2
      go_ret
      exact ⟨rfl, rfl⟩
    · have e : timeB x = false := by simp [timeB]; omega
      rw [e]
      have d2 : decide (x ≤ 1000000000000000) = false := by simp; omega
      go_enter Tryz.func57, Tryz.ntmps57
      go_wp2
      go_ret
      exact ⟨rfl, rfl⟩
  · have e : timeB x = false := by simp [timeB]; omega
    rw [e]
    go_enter Tryz.func57, Tryz.ntmps57
    go_wp2
    go_ret
    exact ⟨rfl, rfl⟩
theorem isTime_all (x : Int) (w : World) : Calls Tryz.prog 55 #[.int .i64 x] w fun r w' => r = .returned (.bool (timeB x)) ∧ w' = w := by
  by_cases c1 : 0 ≤ x
  · by_cases c2 : x ≤ 1000000000000000
    · rw [timeB_yes c1 c2]
      have d2 : decide (x ≤ 1000000000000000) = true := by simp; omega
      go_enter Tryz.func55, Tryz.ntmps55
      go_wp2
      go_ret
      exact ⟨rfl, rfl⟩
    · have e : timeB x = false := by simp [timeB]; omega
      rw [e]
      have d2 : decide (x ≤ 1000000000000000) = false := by simp; omega
      go_enter Tryz.func55, Tryz.ntmps55
      go_wp2
      go_ret
      exact ⟨rfl, rfl⟩
  · have e : timeB x = false := by simp [timeB]; omega
    rw [e]
    go_enter Tryz.func55, Tryz.ntmps55
    go_wp2
    go_ret
    exact ⟨rfl, rfl⟩
def polB (l s e g : Int) : Bool := (timeB l || decide (l = -1)) && timeB s && timeB e && timeB g
def polC (l s e g : Int) : Int := if polB l s e g = true then 0 else 3
theorem polC_ok {l s e g : Int} (h : polB l s e g = true) : polC l s e g = 0 := by rw [polC, if_pos h]
theorem polC_bad {l s e g : Int} (h : polB l s e g = false) : polC l s e g = 3 := by rw [polC, if_neg (by rw [h]; decide)]
end Go.Proofs.YtgejegmilkmiiaaGreatDoor
/-
  The fault of a flight, plainly.
-/
namespace Go.Proofs.YtgejegmilkmiiaaGreatDoor
open Go.ChangeShapes Go.WideShapes Go.ChangeAt Go.RowKit Go.Sort
def waitOk (x : Wr) : Bool := timeB x.rq && timeB x.du
def nodR (l : List Wr) : Bool := decide ((l.map Wr.rq).Nodup)
theorem nodR_iff (l : List Wr) : nodR l = true ↔ ∀ (i j : Nat) x y, j < i → l[i]? = some x → l[j]? = some y → x.rq ≠ y.rq := by
  unfold nodR
  rw [decide_eq_true_eq, List.Nodup, List.pairwise_iff_getElem]
  constructor
  · intro h i j x y hji hx hy e
    obtain ⟨hi, rfl⟩ := List.getElem?_eq_some_iff.1 hx
    obtain ⟨hj, rfl⟩ := List.getElem?_eq_some_iff.1 hy
    exact h j i (by simpa using hj) (by simpa using hi) hji (by simpa using e.symm)
  · intro h i j hi hj hij
    simp only [List.length_map] at hi hj
    simp only [List.getElem_map]
    exact fun e => h j i _ _ hij (List.getElem?_eq_getElem hj) (List.getElem?_eq_getElem hi) e.symm
theorem nodR_no {l : List Wr} {i j : Nat} {x y : Wr} (hji : j < i) (hx : l[i]? = some x) (hy : l[j]? = some y) (h : x.rq = y.rq) : nodR l = false := by
  cases e : nodR l with
  | false => rfl
  | true => exact absurd h ((nodR_iff l).1 e i j x y hji hx hy)
def allOk (l : List Wr) : Bool := l.all waitOk
theorem allOk_iff (l : List Wr) : allOk l = true ↔ ∀ (i : Nat) x, l[i]? = some x → waitOk x = true := by
  unfold allOk
  rw [List.all_eq_true]
  constructor
  · intro h i x hx
    exact h x (List.mem_of_getElem? hx)
  · intro h x hx
    obtain ⟨i, hi⟩ := List.getElem?_of_mem hx
    exact h i x hi
theorem allOk_no {l : List Wr} {i : Nat} {x : Wr} (hx : l[i]? = some x) (h : waitOk x = false) : allOk l = false := by
  cases e : allOk l with
  | false => rfl
  | true => rw [(allOk_iff l).1 e i x hx] at h; cases h
/-- The code of a flight's fault, of the answers to what is asked of it. -/
def flC5 (t : Bool) (ks : Nat) (rq : Int) (ot : Bool) (du : Int) (n : Nat) (ok nd : Bool) : Int :=
  if t = false then 3 else if ks < 1 ∨ 500 < ks then 2 else if rq ≠ 0 then rq else if ot = false ∧ du ≠ 0 then 8 else if 10 < n then 2 else if ok = false then 3 else if nd = false then 6 else 0
def flC (x : Fl) : Int := flC5 (timeB x.id && timeB x.du) x.key.size (reqC x.m x.h x.p x.hs) x.ot x.du x.ws.length (allOk x.ws) (nodR x.ws)
theorem flC_zero {x : Fl} (h : flC x = 0) : timeB x.id = true ∧ timeB x.du = true ∧ 1 ≤ x.key.size ∧ x.key.size ≤ 500 ∧ reqC x.m x.h x.p x.hs = 0 ∧ ¬ (x.ot = false ∧ x.du ≠ 0) ∧ x.ws.length ≤ 10 ∧ allOk x.ws = true ∧ nodR x.ws = true := by
  unfold flC flC5 at h
  split at h
  · cases h
  · rename_i h1
    split at h
    · cases h
    · rename_i h2
      split at h
      · rename_i h3; exact absurd h h3
      · rename_i h3
        split at h
        · cases h
        · rename_i h4
          split at h
          · cases h
          · rename_i h5
            split at h
            · cases h
            · rename_i h6
              split at h
              · cases h
              · rename_i h7
                have h1' : (timeB x.id && timeB x.du) = true := by simpa using h1
                rw [Bool.and_eq_true] at h1'
                exact ⟨h1'.1, h1'.2, by omega, by omega, by simpa using h3, h4, by omega, by simpa using h6, by simpa using h7⟩
end Go.Proofs.YtgejegmilkmiiaaGreatDoor
