/-
  Texts of one claim, one behind the other.
-/
import Derived.BigQuiet
import Derived.Deep.CutRange
import Derived.Deep.RegionHeld3
import Derived.Deep.RegionWith
import Derived.Laws.CopyRow
import Derived.Laws.NewBlocks
import Derived.Laws.StructEq
import Derived.Lib.AppendZerosOnto
import Derived.Lib.Overlaps
import Derived.Lib.QuietBelow
import Derived.Lib.Split
import Derived.Lib.SplitLaws
import Derived.Lib.Walk
import Derived.LoopIn
import Derived.LoopNIn
import Derived.Maps.AppendAt
import Derived.OwnWalkIn
import Derived.RangeFuncBound
import Derived.RangeFuncBox
import Derived.RangeFuncCalls
import Derived.RangeFuncLeaves
import Derived.RangeFuncNested
import Derived.Shelf.Abstract
import Derived.Shelf.RegionOpen
import Derived.Shelf.SlicesE.Kit
import Derived.Shelf.Sort.Plain
import Derived.Shelf.Strings.Cut
import Derived.Shelf.Strings.FieldsFuncAny
import Derived.Shelf.Strings.Prefix
import Derived.Shelf.Strings.Search2
import Derived.Sort.OwnSorted
import Derived.StillTail
import Derived.StillTailTactics
import Derived.TacticsInMore
import Derived.WalkKit
import Derived.WalkMore
import Derived.Test.YtmnblligifgcjaaGreatDoorNmB
/-
  What the model's l2Item answers.
-/
namespace Go.Proofs.YtmnblligifgcjaaGreatDoor
open Go.ChangeShapes Go.WideShapes Go.ChangeAt Go.RowKit
/-- An item and whether it is one. -/
def ItemRes (s : ByteArray) (e : Ending) : Prop := ∃ (r : Rec) (b : Bool), e = .returned (.tuple #[.agg #[.string r.name, .bool r.has, .string r.value], .bool b]) ∧ (b = true → readR s = some r) ∧ (b = false → readR s = none)
theorem ItemRes.no {s : ByteArray} (n : ByteArray) (h : Bool) (v : ByteArray) (hr : readR s = none) : ItemRes s (.returned (.tuple #[.agg #[.string n, .bool h, .string v], .bool false])) := ⟨⟨n, h, v⟩, false, rfl, (fun h => by cases h), fun _ => hr⟩
theorem ItemRes.yes {s : ByteArray} {n : ByteArray} {h : Bool} {v : ByteArray} (hr : readR s = some ⟨n, h, v⟩) : ItemRes s (.returned (.tuple #[.agg #[.string n, .bool h, .string v], .bool true])) := ⟨⟨n, h, v⟩, true, rfl, fun _ => hr, (fun h => by cases h)⟩
theorem eqAt_stop (s : ByteArray) (k : Nat) (hk : k < s.size) (hc : (s[k].toNat : Int) = 61) : eqAt (s.data.toList.drop k) = 0 := by rw [drop_at s k hk, eqAt, if_pos hc]
theorem eqAt_on (s : ByteArray) (k : Nat) (hk : k < s.size) (hc : ¬ (s[k].toNat : Int) = 61) : eqAt (s.data.toList.drop k) = 1 + eqAt (s.data.toList.drop (k + 1)) := by rw [drop_at s k hk, eqAt, if_neg hc]
theorem eqAt_end (s : ByteArray) (k : Nat) (hk : ¬ k < s.size) : eqAt (s.data.toList.drop k) = 0 := by rw [List.drop_of_length_le (by have := size_list s; omega)]; rfl
/-- A struct stored whole. -/
theorem three_set {w : World} {B : Nat} {u0 u1 u2 v0 v1 v2 : Value} (p0 : w.cell? ⟨B, 0, none⟩ = some u0) (p1 : w.cell? ⟨B, 1, none⟩ = some u1) (p2 : w.cell? ⟨B, 2, none⟩ = some u2) :
    (((w.setCell ⟨B, 0, none⟩ v0).setCell ⟨B, 1, none⟩ v1).setCell ⟨B, 2, none⟩ v2).cell? ⟨B, 0, none⟩ = some v0 ∧ (((w.setCell ⟨B, 0, none⟩ v0).setCell ⟨B, 1, none⟩ v1).setCell ⟨B, 2, none⟩ v2).cell? ⟨B, 1, none⟩ = some v1 ∧ (((w.setCell ⟨B, 0, none⟩ v0).setCell ⟨B, 1, none⟩ v1).setCell ⟨B, 2, none⟩ v2).cell? ⟨B, 2, none⟩ = some v2 := by
  have n01 : (⟨B, 0, none⟩ : Addr) ≠ ⟨B, 1, none⟩ := fun h => by have := congrArg Addr.off h; simp at this
  have n02 : (⟨B, 0, none⟩ : Addr) ≠ ⟨B, 2, none⟩ := fun h => by have := congrArg Addr.off h; simp at this
  have n12 : (⟨B, 1, none⟩ : Addr) ≠ ⟨B, 2, none⟩ := fun h => by have := congrArg Addr.off h; simp at this
  refine ⟨?_, ?_, ?_⟩
  · rw [World.cell?_setCell_other _ _ _ _ n02.symm, World.cell?_setCell_other _ _ _ _ n01.symm, World.cell?_setCell_same _ _ _ p0]
  · rw [World.cell?_setCell_other _ _ _ _ n12.symm]
    refine World.cell?_setCell_same _ _ _ (u := u1) ?_
    rw [World.cell?_setCell_other _ _ _ _ n01, p1]
  · refine World.cell?_setCell_same _ _ _ (u := u2) ?_
    rw [World.cell?_setCell_other _ _ _ _ n12, World.cell?_setCell_other _ _ _ _ n02, p2]
theorem two_items {w w1 : World} {n v : ByteArray} {t : TypeId} (hb : Below (w.heap.size + 1 + 1) ((w.alloc (.cells #[.string ⟨#[]⟩, .bool false, .string ⟨#[]⟩] t)).alloc (.cells #[.string n, .bool true, .string v] t)) w1) :
    w.heap.size + 1 < w1.heap.size ∧ w1.cell? ⟨w.heap.size, 0, none⟩ = some (.string ⟨#[]⟩) ∧ w1.cell? ⟨w.heap.size, 1, none⟩ = some (.bool false) ∧ w1.cell? ⟨w.heap.size, 2, none⟩ = some (.string ⟨#[]⟩) ∧
    w1.frozen? ⟨w.heap.size, 0, none⟩ = false ∧ w1.frozen? ⟨w.heap.size, 1, none⟩ = false ∧ w1.frozen? ⟨w.heap.size, 2, none⟩ = false ∧
    w1.cell? ⟨w.heap.size + 1, 0, none⟩ = some (.string n) ∧ w1.cell? ⟨w.heap.size + 1, 1, none⟩ = some (.bool true) ∧ w1.cell? ⟨w.heap.size + 1, 2, none⟩ = some (.string v) ∧ w1.frozen? ⟨w.heap.size + 1, 2, none⟩ = false ∧ Below w.heap.size w w1 := by
  have hz := hb.size
  simp only [World.size_alloc] at hz
  have l0 : w.heap.size < w.heap.size + 1 + 1 := by omega
  have l1 : w.heap.size + 1 < w.heap.size + 1 + 1 := by omega
  have k1 : Below w.heap.size w (w.alloc (.cells #[.string ⟨#[]⟩, .bool false, .string ⟨#[]⟩] t)) := (Below.refl _ _).alloc (Nat.le_refl _) _
  have e := World.size_alloc w (.cells #[.string ⟨#[]⟩, .bool false, .string ⟨#[]⟩] t)
  refine ⟨by omega, ?_, ?_, ?_, ?_, ?_, ?_, ?_, ?_, ?_, ?_, (k1.alloc (by rw [e]; omega) _).trans (hb.mono (by omega))⟩
  · rw [hb.cell (p := ⟨w.heap.size, 0, none⟩) l0]; simp
  · rw [hb.cell (p := ⟨w.heap.size, 1, none⟩) l0]; simp
  · rw [hb.cell (p := ⟨w.heap.size, 2, none⟩) l0]; simp
  · rw [hb.frozen (p := ⟨w.heap.size, 0, none⟩) l0]; simp
  · rw [hb.frozen (p := ⟨w.heap.size, 1, none⟩) l0]; simp
  · rw [hb.frozen (p := ⟨w.heap.size, 2, none⟩) l0]; simp
  · rw [hb.cell (p := ⟨w.heap.size + 1, 0, none⟩) l1, ← e]; simp
  · rw [hb.cell (p := ⟨w.heap.size + 1, 1, none⟩) l1, ← e]; simp
  · rw [hb.cell (p := ⟨w.heap.size + 1, 2, none⟩) l1, ← e]; simp
  · rw [hb.frozen (p := ⟨w.heap.size + 1, 2, none⟩) l1, ← e]; simp
theorem item_put {w : World} {B C : Nat} {a0 a1 a2 b0 b1 b2 v : Value} (hn : B ≠ C) (c0 : w.cell? ⟨B, 0, none⟩ = some a0) (c1 : w.cell? ⟨B, 1, none⟩ = some a1) (c2 : w.cell? ⟨B, 2, none⟩ = some a2)
    (f0 : w.frozen? ⟨B, 0, none⟩ = false) (f1 : w.frozen? ⟨B, 1, none⟩ = false) (f2 : w.frozen? ⟨B, 2, none⟩ = false) (d0 : w.cell? ⟨C, 0, none⟩ = some b0) (d1 : w.cell? ⟨C, 1, none⟩ = some b1) (d2 : w.cell? ⟨C, 2, none⟩ = some b2) :
    (w.setCell ⟨C, 2, none⟩ v).cell? ⟨C, 0, none⟩ = some b0 ∧ (w.setCell ⟨C, 2, none⟩ v).cell? ⟨C, 1, none⟩ = some b1 ∧ (w.setCell ⟨C, 2, none⟩ v).cell? ⟨C, 2, none⟩ = some v ∧
    (w.setCell ⟨C, 2, none⟩ v).cell? ⟨B, 0, none⟩ = some a0 ∧ (w.setCell ⟨C, 2, none⟩ v).cell? ⟨B, 1, none⟩ = some a1 ∧ (w.setCell ⟨C, 2, none⟩ v).cell? ⟨B, 2, none⟩ = some a2 ∧
    (w.setCell ⟨C, 2, none⟩ v).frozen? ⟨B, 0, none⟩ = false ∧ (w.setCell ⟨C, 2, none⟩ v).frozen? ⟨B, 1, none⟩ = false ∧ (w.setCell ⟨C, 2, none⟩ v).frozen? ⟨B, 2, none⟩ = false := by
  have nb : ∀ i j, (⟨C, i, none⟩ : Addr) ≠ ⟨B, j, none⟩ := fun i j h => hn (congrArg Addr.block h).symm
  have n0 : (⟨C, 2, none⟩ : Addr) ≠ ⟨C, 0, none⟩ := fun h => by have := congrArg Addr.off h; simp at this
  have n1 : (⟨C, 2, none⟩ : Addr) ≠ ⟨C, 1, none⟩ := fun h => by have := congrArg Addr.off h; simp at this
  refine ⟨?_, ?_, World.cell?_setCell_same _ _ _ d2, ?_, ?_, ?_, ?_, ?_, ?_⟩
  · rw [World.cell?_setCell_other _ _ _ _ n0, d0]
  · rw [World.cell?_setCell_other _ _ _ _ n1, d1]
  · rw [World.cell?_setCell_other _ _ _ _ (nb 2 0), c0]
  · rw [World.cell?_setCell_other _ _ _ _ (nb 2 1), c1]
  · rw [World.cell?_setCell_other _ _ _ _ (nb 2 2), c2]
  · rw [World.frozen?_setCell]; exact f0
  · rw [World.frozen?_setCell]; exact f1
  · rw [World.frozen?_setCell]; exact f2
set_option maxRecDepth 100000 in
set_option maxHeartbeats 4000000 in
theorem l2Item_any (s : ByteArray) (w : World) (hs : s.size ≤ 1000) :
    Calls Tryz.prog 110 #[.string s] w fun e w' => ItemRes s e ∧ Below w.heap.size w w' := by
  go_enter Tryz.func110, Tryz.ntmps110
  go_wp2_with fail
  go_loop [4] (fun i => ∃ k : Nat, k ≤ s.size ∧ i = .int .i64 k ∧ eqAt s.data.toList = k + eqAt (s.data.toList.drop k)) (fun i => s.size - (intOf i).toNat)
  case atStart => exact ⟨0, Nat.zero_le _, rfl, by simp⟩
  case round =>
    obtain ⟨k, hk, rfl, he⟩ := hrel
    have HE : Hid (eqAt s.data.toList = k + eqAt (s.data.toList.drop k)) := he
    clear he
    by_cases hgo : k < s.size ∧ ¬ ∃ h : k < s.size, (s[k].toNat : Int) = 61
    · obtain ⟨hlt, hc⟩ := hgo
      have hc2 : ¬ (s[k].toNat : Int) = 61 := fun h => hc ⟨hlt, h⟩
      have HX : Hid (eqAt s.data.toList = (k + 1) + eqAt (s.data.toList.drop (k + 1))) := by
        show _ = _
        rw [HE.out, eqAt_on s k hlt hc2]; omega
      have e1 : ((s[k].toNat : Int) != 61) = true := by simpa using hc2
      have g : (k : Int) < s.size := by omega
      clear HE hc hc2
      go_wp2_with fail
      go_round
      case rel => exact ⟨k + 1, by omega, by go_num, HX.out⟩
      case measure => simp [intOf]; omega
    · have HK : Hid (eqAt s.data.toList = k) := by
        show _ = _
        rw [HE.out]
        by_cases hlt : k < s.size
        · by_cases hc : (s[k].toNat : Int) = 61
          · rw [eqAt_stop s k hlt hc]; omega
          · exact absurd ⟨hlt, fun ⟨_, h⟩ => hc h⟩ hgo
        · rw [eqAt_end s k hlt]; omega
      have R1 := @read_noname s
      have R2 := @read_bare s
      have R3 := @read_word s
      have R4 := @read_quote s
      have R5 := @read_bad s
      rw [HK.out] at R1 R2 R3 R4 R5
      have g1 : (0 : Int) ≤ k := by omega
      have g2 : (k : Int) ≤ s.size := by omega
      have hxz : (s.extract (k + 1) s.size).size ≤ 1000 := by simp; omega
      have HStop : Hid (k < s.size → ∃ h : k < s.size, (s[k].toNat : Int) = 61) := fun h => by
        by_cases hc : (s[k].toNat : Int) = 61
        · exact ⟨h, hc⟩
        · exact absurd ⟨h, fun ⟨_, h⟩ => hc h⟩ hgo
      clear hgo HE
      generalize hnm : s.extract 0 k = nm at *
      have HNM : Hid (s.extract 0 k = nm) := hnm
      clear hnm
      by_cases hlt : k < s.size
      · obtain ⟨_, hc⟩ := HStop.out hlt
        have e1 : ((s[k].toNat : Int) != 61) = false := by simpa using hc
        have e2 : ((k : Int) == (s.size : Int)) = false := by simp; omega
        have g3 : (k : Int) < s.size := by omega
        have hks : k ≠ s.size := by omega
        generalize hrs : s.extract (k + 1) s.size = rs at *
        have HRS : Hid (s.extract (k + 1) s.size = rs) := hrs
        clear hrs HStop hc HK R2
        cases hw : wordS nm
        · have HR : Hid (readR s = none) := R1 hw
          have HW : Hid (wordS nm = false) := hw
          clear R1 R3 R4 R5 hw
          go_wp2_with fail
          rw [HNM.out]
          refine (specIsWord_any nm _).mono ?_
          rintro e w1 ⟨rfl, rfl⟩
          rw [HW.out]
          go_wp2_with fail
          exact bodyPost_ret (v := .tuple #[.agg #[.string ⟨#[]⟩, .bool false, .string ⟨#[]⟩], .bool false]) (by simp [results, Tryz.results110, go_sem]) rfl ⟨ItemRes.no _ _ _ HR.out, (Below.refl _ _).alloc (Nat.le_refl _) _⟩
        · have HW : Hid (wordS nm = true) := hw
          cases hv : wordS rs
          · have HV : Hid (wordS rs = false) := hv
            have HU : Hid ((unqB rs = true → readR s = some ⟨nm, true, unqS rs⟩) ∧ (unqB rs = false → readR s = none)) := ⟨R4 hw hks hv, R5 hw hks hv⟩
            clear R1 R3 R4 R5 hw hv
            go_wp2_with fail
            rw [HNM.out]
            refine (specIsWord_any nm _).mono ?_
            rintro e w1 ⟨rfl, rfl⟩
            rw [HW.out]
            go_wp2_with fail
            rw [HNM.out, HRS.out]
            refine (specIsWord_any rs _).mono ?_
            rintro e w1 ⟨rfl, rfl⟩
            rw [HV.out]
            go_wp2_with fail
            refine (l2Unquote_any rs _ (by omega)).mono ?_
            rintro e w1 ⟨rfl, hb1⟩
            simp only [World.size_alloc] at hb1
            obtain ⟨hz1, c0, c1, c2, f0, f1, f2, d0, d1, d2, d3, kb⟩ := two_items hb1
            cases hub : unqB rs
            · have HR : Hid (readR s = none) := HU.out.2 hub
              clear HU hub hb1
              generalize unqS rs = uv at *
              obtain ⟨x0, x1, x2, y0, y1, y2, z0, z1, z2⟩ := item_put (v := .string uv) (by omega : w.heap.size ≠ w.heap.size + 1) c0 c1 c2 f0 f1 f2 d0 d1 d2
              obtain ⟨r0, r1, r2⟩ := three_set (v0 := .string nm) (v1 := .bool true) (v2 := .string uv) y0 y1 y2
              go_wp2_with fail
              exact bodyPost_ret (v := .tuple #[.agg #[.string nm, .bool true, .string uv], .bool false]) (by simp [results, Tryz.results110, go_sem, r0, r1, r2]) rfl ⟨ItemRes.no _ _ _ HR.out, (((kb.setCell (by simp) _).setCell (Nat.le_refl _) _).setCell (Nat.le_refl _) _).setCell (Nat.le_refl _) _⟩
            · have HR : Hid (readR s = some ⟨nm, true, unqS rs⟩) := HU.out.1 hub
              clear HU hub hb1
              generalize unqS rs = uv at *
              obtain ⟨x0, x1, x2, y0, y1, y2, z0, z1, z2⟩ := item_put (v := .string uv) (by omega : w.heap.size ≠ w.heap.size + 1) c0 c1 c2 f0 f1 f2 d0 d1 d2
              obtain ⟨r0, r1, r2⟩ := three_set (v0 := .string nm) (v1 := .bool true) (v2 := .string uv) y0 y1 y2
              go_wp2_with fail
              exact bodyPost_ret (v := .tuple #[.agg #[.string nm, .bool true, .string uv], .bool true]) (by simp [results, Tryz.results110, go_sem, r0, r1, r2]) rfl ⟨ItemRes.yes HR.out, (((kb.setCell (by simp) _).setCell (Nat.le_refl _) _).setCell (Nat.le_refl _) _).setCell (Nat.le_refl _) _⟩
          · have HV : Hid (wordS rs = true) := hv
            have HR : Hid (readR s = some ⟨nm, true, rs⟩) := R3 hw hks hv
            clear R1 R3 R4 R5 hw hv
            go_wp2_with fail
            rw [HNM.out]
            refine (specIsWord_any nm _).mono ?_
            rintro e w1 ⟨rfl, rfl⟩
            rw [HW.out]
            go_wp2_with fail
            rw [HNM.out, HRS.out]
            refine (specIsWord_any rs _).mono ?_
            rintro e w1 ⟨rfl, rfl⟩
            rw [HV.out]
            go_wp2_with fail
            exact bodyPost_ret (v := .tuple #[.agg #[.string nm, .bool true, .string rs], .bool true]) (by simp [results, Tryz.results110, go_sem]) rfl ⟨ItemRes.yes HR.out, ((Below.refl _ _).alloc (Nat.le_refl _) _).alloc (by simp) _⟩
      · have hks : k = s.size := by omega
        have g3 : ¬ (k : Int) < s.size := by omega
        have e2 : ((k : Int) == (s.size : Int)) = true := by simp; omega
        obtain rfl : s = nm := by
          rw [← HNM.out, hks]
          exact ByteArray.extract_zero_size.symm
        clear HStop HK R3 R4 R5 HNM
        cases hw : wordS s
        · have HR : Hid (readR s = none) := R1 hw
          have HW : Hid (wordS s = false) := hw
          clear R1 R2 hw
          go_wp2_with fail
          refine (specIsWord_any s _).mono ?_
          rintro e w1 ⟨rfl, rfl⟩
          rw [HW.out]
          go_wp2_with fail
          exact bodyPost_ret (v := .tuple #[.agg #[.string ⟨#[]⟩, .bool false, .string ⟨#[]⟩], .bool false]) (by simp [results, Tryz.results110, go_sem]) rfl ⟨ItemRes.no _ _ _ HR.out, (Below.refl _ _).alloc (Nat.le_refl _) _⟩
        · have HR : Hid (readR s = some ⟨s, false, ⟨#[]⟩⟩) := R2 hw hks
          have HW : Hid (wordS s = true) := hw
          clear R1 R2 hw
          go_wp2_with fail
          refine (specIsWord_any s _).mono ?_
          rintro e w1 ⟨rfl, rfl⟩
          rw [HW.out]
          go_wp2_with fail
          exact bodyPost_ret (v := .tuple #[.agg #[.string s, .bool false, .string ⟨#[]⟩], .bool true]) (by simp [results, Tryz.results110, go_sem]) rfl ⟨ItemRes.yes HR.out, (Below.refl _ _).alloc (Nat.le_refl _) _⟩
end Go.Proofs.YtmnblligifgcjaaGreatDoor
/-
  The laws' copy of a list of items, and their comparing of two.
-/
namespace Go.Proofs.YtmnblligifgcjaaGreatDoor
open Go.ChangeShapes Go.WideShapes Go.ChangeAt Go.RowKit Go.Sort
/-- m cells from the head of block G on are there and may be written. -/
def Room (w : World) (G m : Nat) : Prop := ∀ j, j < m → (∃ u, w.cell? ⟨G, j, none⟩ = some u) ∧ w.frozen? ⟨G, j, none⟩ = false
theorem Room.keep {w w' : World} {G m : Nat} (h : Room w G m) (hb : Below w.heap.size w w') : Room w' G m := by
  intro j hj
  obtain ⟨⟨u, hu⟩, hf⟩ := h j hj
  exact ⟨⟨u, by rw [hb.cell (block_lt_of_cell hu)]; exact hu⟩, by rw [hb.frozen (block_lt_of_cell hu)]; exact hf⟩
theorem Room.set {w : World} {G m : Nat} (h : Room w G m) (a : Addr) (v : Value) : Room (w.setCell a v) G m := by
  intro j hj
  obtain ⟨⟨u, hu⟩, hf⟩ := h j hj
  refine ⟨?_, by rw [World.frozen?_setCell]; exact hf⟩
  by_cases e : a = ⟨G, j, none⟩
  · exact ⟨v, by subst e; exact World.cell?_setCell_same _ _ _ hu⟩
  · exact ⟨u, by rw [World.cell?_setCell_other _ _ _ _ e]; exact hu⟩
def put3 (w : World) (G k : Nat) (r : Rec) : World := ((w.setCell ⟨G, k * 3, none⟩ (.string r.name)).setCell ⟨G, k * 3 + 1, none⟩ (.bool r.has)).setCell ⟨G, k * 3 + 2, none⟩ (.string r.value)
theorem off_ne {G i j : Nat} (h : i ≠ j) : (⟨G, i, none⟩ : Addr) ≠ ⟨G, j, none⟩ := fun e => h (congrArg Addr.off e)
theorem put3_other (w : World) (G k : Nat) (r : Rec) (j : Nat) (h0 : k * 3 ≠ j) (h1 : k * 3 + 1 ≠ j) (h2 : k * 3 + 2 ≠ j) : (put3 w G k r).cell? ⟨G, j, none⟩ = w.cell? ⟨G, j, none⟩ := by
  unfold put3
  rw [World.cell?_setCell_other _ _ _ _ (off_ne h2), World.cell?_setCell_other _ _ _ _ (off_ne h1), World.cell?_setCell_other _ _ _ _ (off_ne h0)]
theorem Room.put {w : World} {G m : Nat} (h : Room w G m) (k : Nat) (r : Rec) : Room (put3 w G k r) G m := ((h.set _ _).set _ _).set _ _
theorem ItemsAt.put {w : World} {G n : Nat} {l : List Rec} {k : Nat} {r : Rec} (h : ItemsAt w G 0 (l.take k)) (hr : l[k]? = some r) (hm : Room w G (n * 3)) (hk : k < n) : ItemsAt (put3 w G k r) G 0 (l.take (k + 1)) := by
  intro i q hq
  have hi : i < k + 1 := by
    have := (List.getElem?_eq_some_iff.1 hq).1
    simp at this; omega
  rw [List.getElem?_take_of_lt hi] at hq
  simp only [Nat.zero_add]
  by_cases e : i = k
  · subst e
    rw [hr] at hq
    obtain rfl := Option.some.inj hq
    obtain ⟨⟨u0, g0⟩, _⟩ := hm (i * 3) (by omega)
    obtain ⟨⟨u1, g1⟩, _⟩ := (hm.set ⟨G, i * 3, none⟩ (.string r.name)) (i * 3 + 1) (by omega)
    obtain ⟨⟨u2, g2⟩, _⟩ := ((hm.set ⟨G, i * 3, none⟩ (.string r.name)).set ⟨G, i * 3 + 1, none⟩ (.bool r.has)) (i * 3 + 2) (by omega)
    unfold put3
    refine ⟨?_, ?_, World.cell?_setCell_same _ _ _ g2⟩
    · rw [World.cell?_setCell_other _ _ _ _ (off_ne (by omega)), World.cell?_setCell_other _ _ _ _ (off_ne (by omega))]
      exact World.cell?_setCell_same _ _ _ g0
    · rw [World.cell?_setCell_other _ _ _ _ (off_ne (by omega))]
      exact World.cell?_setCell_same _ _ _ g1
  · have hq2 : (l.take k)[i]? = some q := by rw [List.getElem?_take_of_lt (by omega)]; exact hq
    obtain ⟨a1, a2, a3⟩ := h i q hq2
    simp only [Nat.zero_add] at a1 a2 a3
    exact ⟨by rw [put3_other _ _ _ _ _ (by omega) (by omega) (by omega)]; exact a1, by rw [put3_other _ _ _ _ _ (by omega) (by omega) (by omega)]; exact a2, by rw [put3_other _ _ _ _ _ (by omega) (by omega) (by omega)]; exact a3⟩
theorem infoItem : (Tryz.prog.info? 64).map (fun i => (i.zero, i.size, i.bytes)) = some (some (.agg #[.string ⟨#[]⟩, .bool false, .string ⟨#[]⟩]), 3, 40) := by kernel_rfl
end Go.Proofs.YtmnblligifgcjaaGreatDoor
/-
  What the laws over lists of items share.
-/
namespace Go.Proofs.YtmnblligifgcjaaGreatDoor
open Go.ChangeShapes Go.WideShapes Go.ChangeAt Go.RowKit
/-- The slice at a holds the items l. -/
def ItsIn (w : World) (a : Option Addr) (l : List Rec) : Prop := l = [] ∨ ∃ b off, a = some ⟨b, off, none⟩ ∧ ItemsAt w b off l
theorem ItsIn.keep {w w' : World} {a : Option Addr} {l : List Rec} (h : ItsIn w a l) (hb : Below w.heap.size w w') : ItsIn w' a l := by
  rcases h with h | ⟨b, off, e, hat⟩
  · exact .inl h
  · exact .inr ⟨b, off, e, hat.keep hb⟩
theorem szR_room {left : Int} {r : Rec} (h : ¬ szR left r < 0) : (r.name.size : Int) ≤ left ∧ (r.value.size : Int) ≤ left ∧ szR left r ≤ left := by
  by_cases c1 : left - (r.name.size : Int) < 0
  · rw [show szR left r = -1 from by simp [szR, c1]] at h; omega
  · by_cases c2 : left - (r.name.size : Int) - (r.value.size : Int) < 0
    · rw [show szR left r = -1 from by simp [szR, c1, c2]] at h; omega
    · have e : szR left r = left - (r.name.size : Int) - (r.value.size : Int) := by simp [szR, c1, c2]
      rw [e]
      omega
theorem szRs_room (l : List Rec) : ∀ left : Int, ¬ szRs left l < 0 → left ≤ 1048576 → ∀ (i : Nat) r, l[i]? = some r → r.name.size ≤ 1048576 ∧ r.value.size ≤ 1048576 := by
  induction l with
  | nil => intro left _ _ i r hr; simp at hr
  | cons x l ih =>
    intro left h hl i r hr
    rw [szRs] at h
    by_cases c : szR left x < 0
    · rw [if_pos c] at h; omega
    · rw [if_neg c] at h
      obtain ⟨z1, z2, z3⟩ := szR_room c
      cases i with
      | zero => simp at hr; subst hr; omega
      | succ i => exact ih _ h (by omega) i r (by simpa using hr)
theorem szL_room {l : List Rec} {left : Int} (hl : left ≤ 1048576) (h : ¬ szL left l < 0) : (l.length : Int) ≤ 1048576 ∧ ∀ (i : Nat) r, l[i]? = some r → r.name.size ≤ 1048576 ∧ r.value.size ≤ 1048576 := by
  unfold szL at h
  by_cases c : left - (l.length : Int) < 0
  · rw [if_pos c] at h; omega
  · rw [if_neg c] at h
    exact ⟨by omega, szRs_room l _ h (by omega)⟩
theorem szRs_le (l : List Rec) : ∀ left : Int, szRs left l ≤ left ∨ szRs left l < 0 := by
  induction l with
  | nil => intro left; exact .inl (Int.le_refl _)
  | cons x l ih =>
    intro left
    rw [szRs]
    by_cases c : szR left x < 0
    · rw [if_pos c]; right; decide
    · rw [if_neg c]
      have := (szR_room c).2.2
      rcases ih (szR left x) with h | h
      · left; omega
      · right; exact h
theorem szL_le {l : List Rec} {left : Int} (h : ¬ szL left l < 0) : szL left l ≤ left := by
  unfold szL at h ⊢
  by_cases c : left - (l.length : Int) < 0
  · rw [if_pos c] at h; omega
  · rw [if_neg c] at h ⊢
    rcases szRs_le l (left - (l.length : Int)) with x | x <;> omega
end Go.Proofs.YtmnblligifgcjaaGreatDoor
/-
  A slice of items that the call itself grows.
-/
namespace Go.Proofs.YtmnblligifgcjaaGreatDoor
open Go.ChangeShapes Go.WideShapes Go.ChangeAt Go.RowKit
def recW (r : Rec) : List Value := [.string r.name, .bool r.has, .string r.value]
def recsW (l : List Rec) : List Value := l.flatMap recW
theorem recsW_len (l : List Rec) : (recsW l).length = l.length * 3 := by
  induction l with
  | nil => rfl
  | cons r l ih => simp only [recsW, List.flatMap_cons, List.length_append, List.length_cons] at ih ⊢; rw [ih]; simp [recW]; omega
theorem recsW_at (l : List Rec) : ∀ (i : Nat) r, l[i]? = some r → (recsW l)[i * 3]? = some (.string r.name) ∧ (recsW l)[i * 3 + 1]? = some (.bool r.has) ∧ (recsW l)[i * 3 + 2]? = some (.string r.value) := by
  induction l with
  | nil => intro i r hr; simp at hr
  | cons x l ih =>
    intro i r hr
    have e : recsW (x :: l) = .string x.name :: .bool x.has :: .string x.value :: recsW l := by simp [recsW, recW]
    rw [e]
    cases i with
    | zero => simp at hr; subst hr; simp
    | succ i =>
      have := ih i r (by simpa using hr)
      rw [show (i + 1) * 3 = i * 3 + 1 + 1 + 1 from by omega]
      simpa using this
/-- v, nil or not, holds the items l in a row of the call's own, from block base on. -/
def OwnI (w : World) (base : Nat) (v : Value) (l : List Rec) : Prop := w.ownsRow base 64 3 v l.length (recsW l)
theorem OwnI.nil (w : World) (base : Nat) : OwnI w base (.slice none 0 0) [] := World.ownsRow_nil _ _ _ _
theorem OwnI.made0 (w : World) (base : Nat) (hb : base ≤ w.heap.size) : OwnI (w.alloc (.cells #[] 64)) base (.slice (some ⟨w.heap.size, 0, none⟩) 0 0) [] := World.ownsRow_made w #[] 0 hb (by unfold maxLen; omega) rfl
theorem OwnI.below {w w' : World} {base : Nat} {v : Value} {l : List Rec} (h : OwnI w base v l) (hb : Below w.heap.size w w') : OwnI w' base v l := by
  obtain ⟨h1, h2⟩ := h
  refine ⟨h1, ?_⟩
  rcases h2 with h2 | ⟨g, c, cur, e, hg, hh, hrest⟩
  · exact .inl h2
  · exact .inr ⟨g, c, cur, e, hg, by rw [hb.block g (Array.getElem?_eq_some_iff.1 hh).1]; exact hh, hrest⟩
theorem OwnI.lower {w : World} {b0 base : Nat} {v : Value} {l : List Rec} (h : OwnI w base v l) (hb : b0 ≤ base) : OwnI w b0 v l := by
  obtain ⟨h1, h2⟩ := h
  refine ⟨h1, ?_⟩
  rcases h2 with h2 | ⟨g, c, cur, e, hg, hrest⟩
  · exact .inl h2
  · exact .inr ⟨g, c, cur, e, by omega, hrest⟩
theorem OwnI.at {w : World} {base : Nat} {v : Value} {l : List Rec} (h : OwnI w base v l) : ∃ a c, v = .slice a l.length c ∧ ItsIn w a l := by
  have h0 := h
  obtain ⟨_, h1 | ⟨g, c, cur, rfl, _⟩⟩ := h
  · have e : l = [] := List.eq_nil_of_length_eq_zero h1.2
    exact ⟨none, 0, by rw [h1.1, e]; rfl, .inl e⟩
  · refine ⟨_, c, rfl, .inr ⟨g, 0, rfl, fun i r hr => ?_⟩⟩
    have hi := (List.getElem?_eq_some_iff.1 hr).1
    obtain ⟨a1, a2, a3⟩ := recsW_at l i r hr
    have c1 := World.ownsRow.cellAt h0 (i * 3) (by omega)
    have c2 := World.ownsRow.cellAt h0 (i * 3 + 1) (by omega)
    have c3 := World.ownsRow.cellAt h0 (i * 3 + 2) (by omega)
    exact ⟨by rw [Nat.zero_add, c1, a1], by rw [Nat.zero_add, c2, a2], by rw [Nat.zero_add, c3, a3]⟩
theorem own_geI {w : World} {base : Nat} {e : TypeId} {size : Nat} {v : Value} {n : Nat} {xs : List Value} (h : w.ownsRow base e size v n xs) (q : Nat) (hq : v.ownBlock = some q) : base ≤ q := by
  obtain ⟨_, h | ⟨g, c, cur, rfl, hg, _⟩⟩ := h
  · rw [h.1] at hq; cases hq
  · simp only [Value.ownBlock, Option.some.injEq] at hq; omega
theorem own_apart {w : World} {base base' : Nat} {v pv : Value} {l : List Rec} {L : List ByteArray} (hp : OwnS w base' pv L) (hv : OwnI w base v l) : pv.ownBlock = none ∨ pv.ownBlock ≠ v.ownBlock := by
  obtain ⟨_, hp | ⟨g, c, cur, rfl, _, hh, _⟩⟩ := hp
  · left; rw [hp.1]; rfl
  · right
    obtain ⟨_, hv | ⟨g2, c2, cur2, rfl, _, hh2, _⟩⟩ := hv
    · rw [hv.1]; simp [Value.ownBlock]
    · simp only [Value.ownBlock, ne_eq, Option.some.injEq]
      rintro rfl
      rw [hh] at hh2
      simp at hh2
theorem wpList_append_item {ops : Array Oper} {rest : List Oper} {o : Oper} {a : Act} {Q : Exit → Act → World → Prop} (w : World) (hgd : o.guard = none) (s x : Operand)
    (ho : o.op = .call { callee := .builtin .append, args := #[s, x], argTypes := #[59, 59] }) (base : Nat) (v : Value) (l : List Rec) (n : ByteArray) (b : Bool) (z : ByteArray)
    (hs : a.eval s = v) (hx : a.eval x = .slice (some ⟨w.heap.size, 0, none⟩) 1 1) (hown : OwnI w base v l) (hl : l.length ≤ 1000000) (hbase : base ≤ w.heap.size)
    (h : ∀ v' w', OwnI w' base v' (l ++ [⟨n, b, z⟩]) → Below base w w' → w.heap.size ≤ w'.heap.size → (∀ base' pv L, OwnS w base' pv L → OwnS w' base' pv L) → wpList Tryz.prog ops Q rest (a.put o.dst v') w') :
    wpList Tryz.prog ops Q (o :: rest) a (w.alloc (.cells #[.string n, .bool b, .string z] 64)) := by
  obtain ⟨i0, hi, hz0, hz1, hz2⟩ := info_parts infoItem
  refine wpList_append_own _ hgd s x 59 ho base 64 i0 (.agg #[.string ⟨#[]⟩, .bool false, .string ⟨#[]⟩]) 3 40 Tryz.underlying59 hi hz0 hz1 hz2 rfl (by decide) v l.length (recsW l) hs (World.ownsRow.alloc hown _) ⟨w.heap.size, 0, none⟩ 1 1 [.string n, .bool b, .string z] hx rfl ?_ ?_ ?_ ?_ ?_ ?_
  · intro j u hj
    match j, hj with
    | 0, hj => simp at hj; subst hj; simp [Addr.add]
    | 1, hj => simp at hj; subst hj; simp [Addr.add]
    | 2, hj => simp at hj; subst hj; simp [Addr.add]
  · intro u hu; simp at hu; rcases hu with rfl | rfl | rfl <;> rfl
  · unfold maxLen; omega
  · omega
  · simp; omega
  · intro v' w' h1 h2 h3
    have e : recsW (l ++ [⟨n, b, z⟩]) = recsW l ++ [.string n, .bool b, .string z] := by simp [recsW, recW]
    refine h v' w' (by unfold OwnI; rw [e, List.length_append]; exact h1) ?_ ?_ ?_
    · exact ((Below.refl base w).alloc hbase _).grown h2 (by simp; omega) (fun q hq => own_geI hown q hq)
    · have hb := ((Below.refl 0 w).alloc (Nat.zero_le _) (.cells #[.string n, .bool b, .string z] 64)).grown h2 (Nat.zero_le _) (fun q _ => Nat.zero_le _)
      exact hb.size
    · intro base' pv L hp
      exact World.ownsRow.kept (World.ownsRow.alloc hp _) h2 (own_apart hp hown)
end Go.Proofs.YtmnblligifgcjaaGreatDoor
/-
  What the model's l2Parse and ParseItems answer.
-/
namespace Go.Proofs.YtmnblligifgcjaaGreatDoor
open Go.ChangeShapes Go.WideShapes Go.ChangeAt Go.RowKit
theorem trim_le (s : ByteArray) : (trimT s).size ≤ s.size := by
  have h : (Lib.trimS s.data.toList [32, 9]).length ≤ s.data.toList.length := by
    unfold Lib.trimS Lib.trimLeftS Lib.trimRightS
    refine Nat.le_trans (List.dropWhile_sublist _).length_le ?_
    rw [List.length_reverse]
    refine Nat.le_trans (List.dropWhile_sublist _).length_le ?_
    rw [List.length_reverse]
    exact Nat.le_refl _
  have e : (trimT s).size = (Lib.trimS s.data.toList [32, 9]).length := by simp [trimT, ByteArray.size]
  rw [e]
  simpa using h
theorem pcs_small (n : Nat) : ∀ (l : List UInt8) (ins : Bool) (cur : List UInt8), l.length ≤ n → (∀ p ∈ pcs ins cur l, p.length ≤ cur.length + l.length) ∧ (pcs ins cur l).length ≤ l.length + 1 := by
  induction n with
  | zero => intro l ins cur h; have : l = [] := List.eq_nil_of_length_eq_zero (by omega); subst this; simp [pcs]
  | succ n ih =>
    intro l ins cur h
    rw [pcs_first l.length l ins cur (Nat.le_refl _)]
    split
    · rename_i hlt
      obtain ⟨h1, h2⟩ := ih (l.drop (peS ins l + 1)) false [] (by rw [List.length_drop]; omega)
      rw [List.length_drop] at h1 h2
      refine ⟨fun p hp => ?_, by simp only [List.length_cons]; omega⟩
      rcases List.mem_cons.1 hp with rfl | hp
      · simp only [List.length_append, List.length_take]; omega
      · have := h1 p hp; simp only [List.length_nil] at this; omega
    · refine ⟨fun p hp => ?_, by simp⟩
      have e : p = cur ++ l := by simpa using hp
      subst e; simp
theorem str_nil {t : ByteArray} (h : t.size = 0) : t = ⟨#[]⟩ := ByteArray.ext (Array.eq_empty_of_size_eq_zero h)
theorem str_some {v : ByteArray} (h : v.size ≠ 0) : v.toList.isEmpty = false := by
  rw [ByteArray.toList_eq]
  cases hh : v.data.toList with
  | nil => exact absurd (by have := congrArg List.length hh; simpa using this) h
  | cons c r => rfl
def ParseRes (s : ByteArray) (base : Nat) (e : Ending) (w : World) : Prop := ∃ v, e = .returned (.tuple #[v, .int .i64 (parseC s)]) ∧ OwnI w base v (parseL s)
theorem ParseRes.mk {s : ByteArray} {base : Nat} {w : World} {v : Value} {c : Int} {L : List Rec} (h : parseC s = c ∧ parseL s = L) (ho : OwnI w base v L) : ParseRes s base (.returned (.tuple #[v, .int .i64 c])) w := ⟨v, by rw [h.1], by rw [h.2]; exact ho⟩
set_option maxRecDepth 100000 in
set_option maxHeartbeats 8000000 in
theorem l2Parse_any (s : ByteArray) (w : World) (hs : ¬ 1000 < s.size) :
    Calls Tryz.prog 99 #[.string s] w fun e w' => ParseRes s w.heap.size e w' ∧ Below w.heap.size w w' := by
  obtain ⟨sm, sl⟩ := pcs_small s.data.toList.length s.data.toList false [] (Nat.le_refl _)
  rw [size_list] at sm sl
  simp only [List.length_nil, Nat.zero_add] at sm
  have R5 := @parse_bad s hs
  have R2 := fun L => @parse_many s L hs
  have R0 := fun L => @parse_ok s L hs
  have HP : ∀ w, Calls Tryz.prog 109 #[.string s] w fun e w' => (∃ g c, e = .returned (.slice (some ⟨g, 0, none⟩) (pcs false [] s.data.toList).length c) ∧ OwnS w' w.heap.size (.slice (some ⟨g, 0, none⟩) (pcs false [] s.data.toList).length c) ((pcs false [] s.data.toList).map mkB)) ∧ Below w.heap.size w w' := fun w => pieces_any s w (by omega)
  generalize pcs false [] s.data.toList = P at *
  have HSM : Hid (∀ p ∈ P, p.length ≤ s.size) := sm
  have HR5 : Hid (readP P = none → parseC s = 5 ∧ parseL s = []) := R5
  have HR2 : Hid (∀ L, readP P = some L → 20 < L.length → parseC s = 2 ∧ parseL s = []) := R2
  have HR0 : Hid (∀ L, readP P = some L → ¬ 20 < L.length → parseC s = 0 ∧ parseL s = L) := R0
  have HPP : Hid (∀ w, Calls Tryz.prog 109 #[.string s] w fun e w' => (∃ g c, e = .returned (.slice (some ⟨g, 0, none⟩) P.length c) ∧ OwnS w' w.heap.size (.slice (some ⟨g, 0, none⟩) P.length c) (P.map mkB)) ∧ Below w.heap.size w w') := HP
  clear sm R5 R2 R0 HP
  go_enter Tryz.func99, Tryz.ntmps99
  go_wp2_with fail
  refine (HPP.out _).mono ?_
  rintro e w1 ⟨⟨g, c, rfl, hat⟩, hb1⟩
  have HO1 : Hid (OwnI w1 w.heap.size (.slice (some ⟨w.heap.size, 0, none⟩) 0 0) []) := (OwnI.made0 w w.heap.size (Nat.le_refl _)).below hb1
  have HT : Hid (OwnS w1 0 (.slice (some ⟨g, 0, none⟩) P.length c) (P.map mkB)) := OwnS.lower hat (Nat.zero_le _)
  rw [World.size_alloc] at hb1
  have KB1 : Hid (Below w.heap.size w w1) := ((Below.refl _ _).alloc (Nat.le_refl _) _).trans (hb1.mono (Nat.le_succ _))
  generalize hn : P.length = n at *
  have HN : Hid (P.length = n) := hn
  clear hat hb1 HPP hn
  go_wp2_with fail
  go_loopw [4, 6] (fun v i wr => ∃ (k : Nat) (R : List Rec), k ≤ n ∧ R.length ≤ k ∧ i = .int .i64 k ∧ OwnI wr w.heap.size v R ∧ readP P = (readP (P.drop k)).map (R ++ ·) ∧ Below w.heap.size w wr ∧ OwnS wr 0 (.slice (some ⟨g, 0, none⟩) n c) (P.map mkB)) (fun _ i _ => n - (intOf i).toNat)
  case atStart => exact ⟨0, [], Nat.zero_le _, Nat.zero_le _, rfl, HO1.out, by simp, KB1.out, HT.out⟩
  case round =>
    obtain ⟨k, R, hk, hR, rfl, hown, hrd, hb, hat⟩ := hrel
    have HO : Hid (OwnI wr w.heap.size u4 R) := hown
    have HD : Hid (readP P = (readP (P.drop k)).map (R ++ ·)) := hrd
    have HB : Hid (Below w.heap.size w wr) := hb
    have HT : Hid (OwnS wr 0 (.slice (some ⟨g, 0, none⟩) n c) (P.map mkB)) := hat
    have hz := hb.size
    clear hown hrd hb hat HO1 KB1
    by_cases hlt : k < n
    · obtain ⟨p, hp⟩ : ∃ p, P[k]? = some p := ⟨P[k]'(by have := HN.out; omega), List.getElem?_eq_getElem _⟩
      have c1 : wr.cell? ⟨g, k, none⟩ = some (.string (mkB p)) := HT.out.texts k _ (by rw [List.getElem?_map, hp]; rfl)
      have hpz : (mkB p).size ≤ 1000 := by
        have h1 := HSM.out p (List.mem_of_getElem? hp)
        have h2 : (mkB p).size = p.length := by simp [mkB, ByteArray.size]
        omega
      have htz : (trimT (mkB p)).size ≤ 1000 := Nat.le_trans (trim_le _) hpz
      have hdr : P.drop k = p :: P.drop (k + 1) := by
        obtain ⟨hk2, rfl⟩ := List.getElem?_eq_some_iff.1 hp
        exact List.drop_eq_getElem_cons hk2
      have D1 : (trimT (mkB p)).size = 0 → readP P = (readP (P.drop (k + 1))).map (R ++ ·) := fun h => by rw [HD.out, hdr, readP_skip h]
      have D2 : (trimT (mkB p)).size ≠ 0 → readR (trimT (mkB p)) = none → readP P = none := fun h h2 => by rw [HD.out, hdr, readP_bad h h2]; rfl
      have D3 : ∀ r, (trimT (mkB p)).size ≠ 0 → readR (trimT (mkB p)) = some r → readP P = (readP (P.drop (k + 1))).map ((R ++ [r]) ++ ·) := fun r h h2 => by
        rw [HD.out, hdr, readP_take h h2, Option.map_map]
        congr 1
        funext x
        simp
      have gk : (k : Int) < n := by omega
      have LT := fun w => l1Trim_any (mkB p) w hpz
      clear hdr hp HD
      generalize trimT (mkB p) = t at *
      generalize mkB p = pb at *
      have HLT : Hid (∀ w, Calls Tryz.prog 77 #[.string pb] w fun e w' => e = .returned (.string t) ∧ w' = w) := LT
      clear LT
      by_cases ht0 : t.size = 0
      · have HX : Hid (readP P = (readP (P.drop (k + 1))).map (R ++ ·)) := D1 ht0
        have ht := str_nil ht0
        subst ht
        clear D1 D2 D3 ht0 htz
        go_wp2_with fail
        refine (HLT.out _).mono ?_
        rintro e w2 ⟨rfl, rfl⟩
        go_wp2_with fail
        go_roundw
        case rel => exact ⟨k + 1, R, by omega, by omega, by go_num, HO.out, HX.out, HB.out, HT.out⟩
        case measure => simp [intOf]; omega
      · have hte := str_some ht0
        have HD2 : Hid (readR t = none → readP P = none) := D2 ht0
        have HD3 : Hid (∀ r, readR t = some r → readP P = (readP (P.drop (k + 1))).map ((R ++ [r]) ++ ·)) := fun r => D3 r ht0
        clear D1 D2 D3 ht0
        go_wp2_with fail
        refine (HLT.out _).mono ?_
        rintro e w2 ⟨rfl, rfl⟩
        go_wp2_with fail
        refine (l2Item_any t _ htz).mono ?_
        rintro e w3 ⟨⟨r, b, rfl, y1, y2⟩, hb3⟩
        have HB3 : Hid (Below w.heap.size w w3) := HB.out.trans (hb3.mono hz)
        have hz3 := HB3.out.size
        have HO3 : Hid (OwnI w3 w.heap.size u4 R) := HO.out.below hb3
        have HT3 : Hid (OwnS w3 0 (.slice (some ⟨g, 0, none⟩) n c) (P.map mkB)) := HT.out.below hb3
        clear HB HO HT hb3 c1
        cases b
        · have HY := HR5.out (HD2.out (y2 rfl))
          have HYY : Hid (parseC s = 5 ∧ parseL s = []) := HY
          obtain ⟨rn, rh, rv⟩ := r
          clear y1 y2 HY HD2 HD3
          go_wp2_with fail
          go_ret2
          exact ⟨ParseRes.mk HYY.out (OwnI.nil _ _), HB3.out.alloc hz3 _⟩
        · have HY := HD3.out r (y1 rfl)
          have HYY : Hid (readP P = (readP (P.drop (k + 1))).map ((R ++ [r]) ++ ·)) := HY
          obtain ⟨rn, rh, rv⟩ := r
          clear y1 y2 HY HD2 HD3
          have HB4 : Hid (Below w.heap.size w (w3.alloc (.cells #[.string rn, .bool rh, .string rv] 64))) := HB3.out.alloc hz3 _
          have HO4 : Hid (OwnI (w3.alloc (.cells #[.string rn, .bool rh, .string rv] 64)) w.heap.size u4 R) := HO3.out.below ((Below.refl _ _).alloc (Nat.le_refl _) _)
          have HT4 : Hid (OwnS (w3.alloc (.cells #[.string rn, .bool rh, .string rv] 64)) 0 (.slice (some ⟨g, 0, none⟩) n c) (P.map mkB)) := HT3.out.below ((Below.refl _ _).alloc (Nat.le_refl _) _)
          have hz4 : w.heap.size ≤ (w3.alloc (.cells #[.string rn, .bool rh, .string rv] 64)).heap.size := HB4.out.size
          go_wp2_with (at_builtin; refine wpList_append_item _ rfl (.tmp 33) (.tmp 35) rfl w.heap.size _ R rn rh rv rfl (by simp [go_sem]) HO4.out (by omega) hz4 ?_; intro v5 w5 HO5 hb5 hz5 hk5)
          go_roundw
          case rel => exact ⟨k + 1, R ++ [⟨rn, rh, rv⟩], by omega, by simp; omega, by go_num, HO5, HYY.out, HB4.out.trans hb5, hk5 _ _ _ HT4.out⟩
          case measure => simp [intOf]; omega
    · have HX : Hid (readP P = some R) := by
        show _ = _
        rw [HD.out, List.drop_of_length_le (by have := HN.out; omega)]
        simp [readP]
      obtain ⟨ra, rc, rfl, _⟩ := HO.out.at
      have hRn : R.length ≤ 1001 := by omega
      clear HD
      by_cases hbig : 20 < R.length
      · have HY : Hid (parseC s = 2 ∧ parseL s = []) := HR2.out R HX.out hbig
        have gb : (20 : Int) < R.length := by omega
        clear HX
        go_wp2_with fail
        go_ret2
        exact ⟨ParseRes.mk HY.out (OwnI.nil _ _), HB.out⟩
      · have HY : Hid (parseC s = 0 ∧ parseL s = R) := HR0.out R HX.out hbig
        have gb : ¬ (20 : Int) < R.length := by omega
        clear HX
        go_wp2_with fail
        go_ret2
        exact ⟨ParseRes.mk HY.out HO.out, HB.out⟩
end Go.Proofs.YtmnblligifgcjaaGreatDoor
/-
  What quoteEnd answers.
-/
namespace Go.Proofs.YtmnblligifgcjaaGreatDoor
open Go.ChangeShapes Go.WideShapes Go.ChangeAt Go.RowKit
set_option maxHeartbeats 1000000 in
theorem quoteEnd_any (s : ByteArray) (b : Nat) (w : World) (hs : s.size ≤ 1048576) (hb : b < s.size) :
    Calls Tryz.prog 106 #[.string s, .int .i64 b] w fun e w' => e = .returned (.int .i64 (qEnd s.data.toList b : Int)) ∧ w' = w := by
  go_enter Tryz.func106, Tryz.ntmps106
  go_wp2
  go_loop [5] (fun i => ∃ k : Nat, i = .int .i64 k ∧ ((k ≤ s.size ∧ qEnd s.data.toList b = k + qLen (s.data.toList.drop k)) ∨ (k = s.size + 1 ∧ qEnd s.data.toList b = s.size))) (fun i => s.size + 1 - (intOf i).toNat)
  case atStart => exact ⟨b + 1, by go_num, .inl ⟨by omega, rfl⟩⟩
  case round =>
    obtain ⟨k, rfl, hk⟩ := hrel
    by_cases hlt : k < s.size
    · have HK : Hid (qEnd s.data.toList b = k + qLen (s.data.toList.drop k)) := by
        rcases hk with hk | hk
        · exact hk.2
        · omega
      have HD : Hid (s.data.toList.drop k = s[k] :: s.data.toList.drop (k + 1)) := drop_at s k hlt
      clear hk
      by_cases c1 : (s[k].toNat : Int) = 34
      · have e1 : ((s[k].toNat : Int) == 34) = true := by simpa using c1
        have e2 : ((s[k].toNat : Int) == 92) = false := by simp; omega
        have HE : Hid ((k : Int) = (qEnd s.data.toList b : Int)) := by
          show _ = _
          rw [HK.out, HD.out, qLen_end _ _ c1]; omega
        clear HK HD c1
        go_wp2
        go_ret
        exact ⟨ret_int HE.out, rfl⟩
      · have e1 : ((s[k].toNat : Int) == 34) = false := by simpa using c1
        by_cases c2 : (s[k].toNat : Int) = 92
        · have e2 : ((s[k].toNat : Int) == 92) = true := by simpa using c2
          have HE : Hid ((k + 2 ≤ s.size ∧ qEnd s.data.toList b = (k + 2) + qLen (s.data.toList.drop (k + 2))) ∨ (k + 2 = s.size + 1 ∧ qEnd s.data.toList b = s.size)) := by
            show _ ∨ _
            by_cases hl : k + 1 = s.size
            · right
              refine ⟨by omega, ?_⟩
              rw [HK.out, HD.out, show s.data.toList.drop (k + 1) = [] from List.drop_of_length_le (by simp; omega), qLen_cut _ c2]; omega
            · left
              refine ⟨by omega, ?_⟩
              rw [HK.out, HD.out, drop_at s (k + 1) (by omega), qLen_esc _ _ _ c2, show k + 1 + 1 = k + 2 from rfl]; omega
          clear HK HD c1 c2
          go_wp2
          go_round
          case rel => exact ⟨k + 2, by go_num, HE.out⟩
          case measure => simp [intOf]; omega
        · have e2 : ((s[k].toNat : Int) == 92) = false := by simpa using c2
          have HE : Hid (k + 1 ≤ s.size ∧ qEnd s.data.toList b = (k + 1) + qLen (s.data.toList.drop (k + 1))) := by
            show _ ∧ _
            refine ⟨by omega, ?_⟩
            rw [HK.out, HD.out, qLen_take _ _ c1 c2]; omega
          clear HK HD c1 c2
          go_wp2
          go_round
          case rel => exact ⟨k + 1, by go_num, .inl HE.out⟩
          case measure => simp [intOf]; omega
    · have HE : Hid ((s.size : Int) = (qEnd s.data.toList b : Int)) := by
        show _ = _
        rcases hk with hk | hk
        · rw [hk.2, show s.data.toList.drop k = [] from List.drop_of_length_le (by simp; omega)]; simp [qLen]; omega
        · rw [hk.2]
      clear hk
      go_wp2
      go_ret
      exact ⟨ret_int HE.out, rfl⟩
set_option maxHeartbeats 400000 in
theorem hasQuote_any (s : ByteArray) (w : World) (hs : s.size ≤ 1048576) :
    Calls Tryz.prog 115 #[.string s, .string ⟨#[34]⟩] w fun e w' => e = .returned (.bool (decide (s.data.toList.head? = some 34))) ∧ w' = w := by
  by_cases h : s.size < 1
  · have HE : Hid (decide (s.data.toList.head? = some 34) = false) := by
      show _ = _
      have : s.data.toList = [] := List.eq_nil_of_length_eq_zero (by have := size_list s; omega)
      rw [this]; simp
    go_enter Tryz.func115, Tryz.ntmps115
    go_wp2
    go_ret
    exact ⟨ret_bool HE.out.symm, rfl⟩
  · have HE : Hid (((s.extract 0 1).toList == [34]) = decide (s.data.toList.head? = some 34)) := by
      show _ = _
      have h0 : 0 < s.size := by omega
      have e1 := drop_at s 0 h0
      rw [List.drop_zero] at e1
      have e2 : (s.extract 0 1).toList = [s[0]] := by
        rw [ByteArray.toList_eq, ByteArray.data_extract, Array.toList_extract, List.extract_eq_take_drop, List.drop_zero, e1]; rfl
      rw [e2, e1]
      simp only [List.head?_cons, Option.some.injEq]
      by_cases c : s[0] = 34
      · rw [c]; rfl
      · simp [c]
    go_enter Tryz.func115, Tryz.ntmps115
    go_wp2
    go_ret
    exact ⟨ret_bool HE.out, rfl⟩
end Go.Proofs.YtmnblligifgcjaaGreatDoor
/-
  What pieceEnd answers.
-/
namespace Go.Proofs.YtmnblligifgcjaaGreatDoor
open Go.ChangeShapes Go.WideShapes Go.ChangeAt Go.RowKit
/-- Where the piece that begins at b ends. -/
def pEnd (l : List UInt8) (b : Nat) : Nat := b + peS false (l.drop b)
theorem pEnd_quote (s : ByteArray) (k : Nat) (hk : k < s.size) (hc : (s[k].toNat : Int) = 34) :
    (qEnd s.data.toList k + 1 ≤ s.size ∧ k + peS false (s.data.toList.drop k) = (qEnd s.data.toList k + 1) + peS false (s.data.toList.drop (qEnd s.data.toList k + 1))) ∨ (qEnd s.data.toList k + 1 = s.size + 1 ∧ k + peS false (s.data.toList.drop k) = s.size) := by
  have hz := size_list s
  have hr : (s.data.toList.drop (k + 1)).length = s.size - (k + 1) := by rw [List.length_drop, hz]
  have hq := qLen_le (s.data.toList.drop (k + 1))
  have e : k + peS false (s.data.toList.drop k) = k + 1 + peS true (s.data.toList.drop (k + 1)) := by
    rw [drop_at s k hk, peS_quote hc]; simp only [Bool.not_false]; omega
  rw [e, peS_in _ (s.data.toList.drop (k + 1)) (Nat.le_refl _)]
  unfold qEnd
  by_cases q : qLen (s.data.toList.drop (k + 1)) < (s.data.toList.drop (k + 1)).length
  · left
    rw [if_pos q, List.drop_drop]
    refine ⟨by omega, ?_⟩
    rw [show k + 1 + (qLen (s.data.toList.drop (k + 1)) + 1) = k + 1 + qLen (s.data.toList.drop (k + 1)) + 1 from by omega]
    omega
  · right
    rw [if_neg q]
    omega
set_option maxHeartbeats 2000000 in
theorem pieceEnd_any (s : ByteArray) (b : Nat) (w : World) (hs : s.size ≤ 1000) (hb : b < s.size) :
    Calls Tryz.prog 95 #[.string s, .int .i64 b] w fun e w' => e = .returned (.int .i64 (pEnd s.data.toList b : Int)) ∧ w' = w := by
  have hz := size_list s
  go_enter Tryz.func95, Tryz.ntmps95
  go_wp2
  go_step3
  go_wp2
  go_step3
  go_wp2
  go_loop [5] (fun i => ∃ k : Nat, i = .int .i64 k ∧ ((k ≤ s.size ∧ pEnd s.data.toList b = k + peS false (s.data.toList.drop k)) ∨ (k = s.size + 1 ∧ pEnd s.data.toList b = s.size))) (fun i => s.size + 1 - (intOf i).toNat)
  case atStart => exact ⟨b, rfl, .inl ⟨by omega, rfl⟩⟩
  case round =>
    obtain ⟨k, rfl, hk⟩ := hrel
    by_cases hlt : k < s.size
    · have HK : Hid (pEnd s.data.toList b = k + peS false (s.data.toList.drop k)) := by
        rcases hk with hk | hk
        · exact hk.2
        · omega
      clear hk
      by_cases c1 : (s[k].toNat : Int) = 34
      · have e1 : ((s[k].toNat : Int) == 34) = true := by simpa using c1
        have hq := pEnd_quote s k hlt c1
        have hqk : k ≤ qEnd s.data.toList k := by unfold qEnd; omega
        have HQ := quoteEnd_any s k w (by omega) hlt
        generalize qEnd s.data.toList k = q at *
        have HX : Hid ((q + 1 ≤ s.size ∧ pEnd s.data.toList b = (q + 1) + peS false (s.data.toList.drop (q + 1))) ∨ (q + 1 = s.size + 1 ∧ pEnd s.data.toList b = s.size)) := by
          rw [HK.out]; exact hq
        have hq1 : q ≤ s.size := by rcases hq with h | h <;> omega
        clear hq HK c1
        go_wp2_with fail
        refine HQ.mono ?_
        rintro e w1 ⟨rfl, rfl⟩
        go_wp2_with fail
        go_round
        case rel => exact ⟨q + 1, by go_num, HX.out⟩
        case measure => simp [intOf]; omega
      · have e1 : ((s[k].toNat : Int) == 34) = false := by simpa using c1
        by_cases c2 : (s[k].toNat : Int) = 44
        · have e2 : ((s[k].toNat : Int) == 44) = true := by simpa using c2
          have HX : Hid ((k : Int) = (pEnd s.data.toList b : Int)) := by
            show _ = _
            rw [HK.out, drop_at s k hlt, peS_comma c2]; omega
          have hm : min (k : Int) (s.size : Int) = k := by omega
          clear HK c1 c2
          go_wp2_with fail
          go_ret
          exact ⟨ret_int HX.out, rfl⟩
        · have e2 : ((s[k].toNat : Int) == 44) = false := by simpa using c2
          have HX : Hid (k + 1 ≤ s.size ∧ pEnd s.data.toList b = (k + 1) + peS false (s.data.toList.drop (k + 1))) := by
            show _ ∧ _
            refine ⟨by omega, ?_⟩
            rw [HK.out, drop_at s k hlt, peS_take (by simp) c1 (fun x => c2 x.1)]; omega
          clear HK c1 c2
          go_wp2_with fail
          go_round
          case rel => exact ⟨k + 1, by go_num, .inl HX.out⟩
          case measure => simp [intOf]; omega
    · have HX : Hid ((s.size : Int) = (pEnd s.data.toList b : Int)) := by
        show _ = _
        rcases hk with hk | hk
        · rw [hk.2, show s.data.toList.drop k = [] from List.drop_of_length_le (by omega)]; simp [peS]; omega
        · rw [hk.2]
      have hm : min (k : Int) (s.size : Int) = s.size := by omega
      clear hk
      go_wp2_with fail
      go_ret
      exact ⟨ret_int HX.out, rfl⟩
end Go.Proofs.YtmnblligifgcjaaGreatDoor
/-
  What the pieces of a text tell, one behind the other, plainly.
-/
namespace Go.Proofs.YtmnblligifgcjaaGreatDoor
/-- The pieces, trimmed, without the empty ones. -/
def trims : List (List UInt8) → List ByteArray
  | [] => []
  | p :: ps => if (trimT (mkB p)).size = 0 then trims ps else trimT (mkB p) :: trims ps
theorem trims_skip {p : List UInt8} {ps : List (List UInt8)} (h : (trimT (mkB p)).size = 0) : trims (p :: ps) = trims ps := by rw [trims, if_pos h]
theorem trims_take {p : List UInt8} {ps : List (List UInt8)} (h : (trimT (mkB p)).size ≠ 0) : trims (p :: ps) = trimT (mkB p) :: trims ps := by rw [trims, if_neg h]
theorem trims_len : ∀ ps : List (List UInt8), (trims ps).length ≤ ps.length
  | [] => Nat.le_refl _
  | p :: ps => by
    have := trims_len ps
    rw [trims]
    split <;> simp only [List.length_cons] <;> omega
/-- What is told of a trimmed piece: an item and its code. -/
def Tells (t : ByteArray) (x : Rec × Int) : Prop := (x.2 = 0 ∧ readR t = some x.1) ∨ (x.2 = 5 ∧ readR t = none)
def AllTell : List ByteArray → List (Rec × Int) → Prop
  | [], [] => True
  | t :: d, x :: xs => Tells t x ∧ AllTell d xs
  | _, _ => False
theorem readP_all : ∀ (ps : List (List UInt8)) (xs : List (Rec × Int)), AllTell (trims ps) xs → (∀ x ∈ xs, x.2 = 0) → readP ps = some (xs.map (·.1))
  | [], [], _, _ => rfl
  | [], _ :: _, h, _ => h.elim
  | p :: ps, xs, h, h0 => by
    by_cases c : (trimT (mkB p)).size = 0
    · rw [trims_skip c] at h
      rw [readP_skip c]
      exact readP_all ps xs h h0
    · rw [trims_take c] at h
      match xs, h, h0 with
      | x :: xs, ⟨hx, ht⟩, h0 =>
        have hx0 := h0 x (by simp)
        rcases hx with hx | hx
        · rw [readP_take c hx.2, readP_all ps xs ht (fun y hy => h0 y (by simp [hy]))]
          rfl
        · omega
theorem readP_none : ∀ (ps : List (List UInt8)) (t : ByteArray), t ∈ trims ps → readR t = none → readP ps = none
  | [], t, h, _ => by simp [trims] at h
  | p :: ps, t, h, hr => by
    by_cases c : (trimT (mkB p)).size = 0
    · rw [trims_skip c] at h
      rw [readP_skip c]
      exact readP_none ps t h hr
    · rw [trims_take c] at h
      cases hq : readR (trimT (mkB p)) with
      | none => exact readP_bad c hq
      | some r =>
        rcases List.mem_cons.1 h with rfl | h
        · rw [hq] at hr; cases hr
        · rw [readP_take c hq, readP_none ps t h hr]; rfl
theorem trim_nothing : (trimT (mkB [])).size = 0 := by
  have := trim_le (mkB [])
  have e : (mkB []).size = 0 := rfl
  omega
theorem trims_nil : trims (pcs false [] []) = [] := by
  rw [show pcs false [] [] = [[]] from rfl, trims_skip trim_nothing]
  rfl
/-- One piece further on. -/
theorem trims_step (s : ByteArray) (b : Nat) (hb : b < s.size) :
    trims (pcs false [] (s.data.toList.drop b)) = trims ([(s.data.toList.drop b).take (pEnd s.data.toList b - b)] ++ (if pEnd s.data.toList b + 1 ≤ s.size then pcs false [] (s.data.toList.drop (pEnd s.data.toList b + 1)) else [])) := by
  have hz := size_list s
  have hl : (s.data.toList.drop b).length = s.size - b := by rw [List.length_drop, hz]
  have hp := peS_le _ (s.data.toList.drop b) false (Nat.le_refl _)
  rw [pcs_first _ (s.data.toList.drop b) false [] (Nat.le_refl _)]
  unfold pEnd
  rw [show b + peS false (s.data.toList.drop b) - b = peS false (s.data.toList.drop b) from by omega]
  by_cases q : peS false (s.data.toList.drop b) < (s.data.toList.drop b).length
  · rw [if_pos q, if_pos (by omega), List.drop_drop, List.nil_append, show b + (peS false (s.data.toList.drop b) + 1) = b + peS false (s.data.toList.drop b) + 1 from by omega]
    rfl
  · rw [if_neg q, if_neg (by omega), List.take_of_length_le (by omega)]
    rfl
/-- Where the teller stands: done is what it has told of. -/
def TellAt (s : ByteArray) (done : List ByteArray) (b : Nat) : Prop := (b ≤ s.size ∧ trims (pcs false [] s.data.toList) = done ++ trims (pcs false [] (s.data.toList.drop b))) ∨ (b = s.size + 1 ∧ trims (pcs false [] s.data.toList) = done)
theorem TellAt.over {s : ByteArray} {done : List ByteArray} {b : Nat} (h : TellAt s done b) (hb : ¬ b < s.size) : trims (pcs false [] s.data.toList) = done := by
  have hz := size_list s
  rcases h with h | h
  · rw [h.2, List.drop_of_length_le (by omega), trims_nil, List.append_nil]
  · exact h.2
theorem TellAt.skip {s : ByteArray} {done : List ByteArray} {b : Nat} (h : TellAt s done b) (hb : b < s.size) (ht : (trimT (mkB ((s.data.toList.drop b).take (pEnd s.data.toList b - b)))).size = 0) : TellAt s done (pEnd s.data.toList b + 1) := by
  have hz := size_list s
  have hp := peS_le _ (s.data.toList.drop b) false (Nat.le_refl _)
  rw [List.length_drop, hz] at hp
  rcases h with h | h
  · have e := h.2
    rw [trims_step s b hb, List.singleton_append, trims_skip ht] at e
    by_cases q : pEnd s.data.toList b + 1 ≤ s.size
    · rw [if_pos q] at e; exact .inl ⟨q, e⟩
    · rw [if_neg q] at e
      refine .inr ⟨by unfold pEnd at q ⊢; omega, by rw [e]; simp [trims]⟩
  · omega
theorem TellAt.take {s : ByteArray} {done : List ByteArray} {b : Nat} (h : TellAt s done b) (hb : b < s.size) (ht : (trimT (mkB ((s.data.toList.drop b).take (pEnd s.data.toList b - b)))).size ≠ 0) :
    TellAt s (done ++ [trimT (mkB ((s.data.toList.drop b).take (pEnd s.data.toList b - b)))]) (pEnd s.data.toList b + 1) ∧ (done ++ [trimT (mkB ((s.data.toList.drop b).take (pEnd s.data.toList b - b)))]) <+: trims (pcs false [] s.data.toList) := by
  have hz := size_list s
  have hp := peS_le _ (s.data.toList.drop b) false (Nat.le_refl _)
  rw [List.length_drop, hz] at hp
  rcases h with h | h
  · have e := h.2
    rw [trims_step s b hb, List.singleton_append, trims_take ht] at e
    refine ⟨?_, ?_⟩
    · by_cases q : pEnd s.data.toList b + 1 ≤ s.size
      · rw [if_pos q] at e; exact .inl ⟨q, by rw [e]; simp⟩
      · rw [if_neg q] at e
        exact .inr ⟨by unfold pEnd at q ⊢; omega, by rw [e]; simp [trims]⟩
    · rw [e]
      refine ⟨trims (if pEnd s.data.toList b + 1 ≤ s.size then pcs false [] (s.data.toList.drop (pEnd s.data.toList b + 1)) else []), ?_⟩
      rw [List.append_assoc]
      rfl
  · omega
theorem tells_snoc : ∀ {d : List ByteArray} {xs : List (Rec × Int)} {t : ByteArray} {x : Rec × Int}, AllTell d xs → Tells t x → AllTell (d ++ [t]) (xs ++ [x])
  | [], [], _, _, _, hx => ⟨hx, trivial⟩
  | _ :: _, _ :: _, _, _, h, hx => ⟨h.1, tells_snoc h.2 hx⟩
theorem tells_len : ∀ {d : List ByteArray} {xs : List (Rec × Int)}, AllTell d xs → d.length = xs.length
  | [], [], _ => rfl
  | _ :: _, _ :: _, h => by simp [tells_len h.2]
theorem tells_last : ∀ {d : List ByteArray} {xs : List (Rec × Int)} {x : Rec × Int}, AllTell d (xs ++ [x]) → ∃ t ∈ d, Tells t x
  | [], [], _, h => h.elim
  | [], _ :: _, _, h => h.elim
  | t :: _, [], _, h => ⟨t, by simp, h.1⟩
  | _ :: _, _ :: _, _, h => by
    obtain ⟨t, ht, hx⟩ := tells_last h.2
    exact ⟨t, by simp [ht], hx⟩
end Go.Proofs.YtmnblligifgcjaaGreatDoor
/-
  strings.Cut at a sign that stands alone.
-/
namespace Go.Proofs.YtmnblligifgcjaaGreatDoor
open Go.ChangeShapes Go.WideShapes Go.ChangeAt Go.RowKit Go.Sort
theorem idx_eq : ∀ l : List UInt8, Lib.indexByte l 61 = if eqAt l < l.length then (eqAt l : Int) else -1
  | [] => by simp [Lib.indexByte, eqAt]
  | c :: r => by
    have ih := idx_eq r
    rw [Lib.indexByte, eqAt]
    by_cases h : (c.toNat : Int) = 61
    · have hc : c = 61 := UInt8.toNat_inj.1 (by simpa using (by omega : c.toNat = 61))
      rw [if_pos (by rw [hc]; rfl), if_pos h]
      simp
    · have hc : ¬ (c == 61) = true := by
        intro e
        have e2 : c = 61 := by simpa using e
        rw [e2] at h
        exact h rfl
      rw [if_neg hc, if_neg h, ih]
      by_cases q : eqAt r < r.length
      · have e1 : ¬ ((eqAt r : Int) == -1) = true := by simp
        rw [if_pos q, if_neg e1, if_pos (by simp only [List.length_cons]; omega)]
        omega
      · rw [if_neg q, if_pos (by rfl), if_neg (by simp only [List.length_cons]; omega)]
theorem index_lib (s : ByteArray) (w : World) :
    Calls Tryz.prog 121 #[.string s, .string ⟨#[61]⟩] w fun e w' => e = .returned (.int .i64 (Lib.indexByte s.data.toList 61)) ∧ w' = w :=
  Any.stringslite_Index_one Tryz.lays219 s 61 w
set_option maxRecDepth 100000 in
set_option maxHeartbeats 2000000 in
theorem cut_yes (s : ByteArray) (w : World) (hs : s.size ≤ 1000) (h : eqAt s.data.toList < s.size) :
    Calls Tryz.prog 114 #[.string s, .string ⟨#[61]⟩] w fun e w' => e = .returned (.tuple #[.string (s.extract 0 (eqAt s.data.toList)), .string (s.extract (eqAt s.data.toList + 1) s.size), .bool true]) ∧ Below w.heap.size w w' := by
  have HI := index_lib s w
  rw [idx_eq, if_pos (by rw [size_list]; exact h)] at HI
  generalize eqAt s.data.toList = k at *
  have g0 : (0 : Int) ≤ k := by omega
  have g1 : (k : Int) ≤ s.size := by omega
  have g2 : (k : Int) + 1 ≤ s.size := by omega
  go_enter Tryz.func114, Tryz.ntmps114
  go_wp2_with fail
  refine HI.mono ?_
  rintro e w1 ⟨rfl, rfl⟩
  go_wp2_with fail
  refine wp_region_quiet_below (by kernel_rfl) (by kernel_rfl) ?_
  repeat (go_big_quiet_step (fail))
  refine wpQuiet_nil ?_
  intro W2 hW2
  have hbW2 : Below w1.heap.size w1 W2 := by
    obtain ⟨⟨d, os⟩, rfl⟩ := hW2
    exact below_regrown w1 d os
  clear hW2
  go_wp2_with fail
  exact bodyPost_ret (v := .tuple #[.string (s.extract 0 k), .string (s.extract (k + 1) s.size), .bool true]) (by simp [results, Tryz.results114, go_sem]) rfl ⟨rfl, hbW2⟩
set_option maxHeartbeats 2000000 in
theorem cut_no (s : ByteArray) (w : World) (h : ¬ eqAt s.data.toList < s.size) :
    Calls Tryz.prog 114 #[.string s, .string ⟨#[61]⟩] w fun e w' => e = .returned (.tuple #[.string s, .string ⟨#[]⟩, .bool false]) ∧ Below w.heap.size w w' := by
  have HI := index_lib s w
  rw [idx_eq, if_neg (by rw [size_list]; exact h)] at HI
  go_enter Tryz.func114, Tryz.ntmps114
  go_wp2_with fail
  refine HI.mono ?_
  rintro e w1 ⟨rfl, rfl⟩
  go_wp2_with fail
  exact bodyPost_ret (v := .tuple #[.string s, .string ⟨#[]⟩, .bool false]) (by simp [results, Tryz.results114, go_sem]) rfl ⟨rfl, Below.refl _ _⟩
set_option maxHeartbeats 2000000 in
theorem cutS_of (s : ByteArray) (w : World) (a b : ByteArray) (h : Bool) (hc : Calls Tryz.prog 114 #[.string s, .string ⟨#[61]⟩] w fun e w' => e = .returned (.tuple #[.string a, .string b, .bool h]) ∧ Below w.heap.size w w') :
    Calls Tryz.prog 107 #[.string s, .string ⟨#[61]⟩] w fun e w' => e = .returned (.tuple #[.string a, .string b, .bool h]) ∧ Below w.heap.size w w' := by
  go_enter Tryz.func107, Tryz.ntmps107
  go_wp2_with fail
  refine hc.mono ?_
  rintro e w1 ⟨rfl, hb⟩
  go_wp2_with fail
  exact bodyPost_ret (v := .tuple #[.string a, .string b, .bool h]) (by simp [results, Tryz.results107, go_sem]) rfl ⟨rfl, hb⟩
end Go.Proofs.YtmnblligifgcjaaGreatDoor
/-
  What UnquoteText answers.
-/
namespace Go.Proofs.YtmnblligifgcjaaGreatDoor
open Go.ChangeShapes Go.WideShapes Go.ChangeAt Go.RowKit
set_option maxHeartbeats 400000 in
theorem implUnquote_long (s : ByteArray) (w : World) (h : 2002 < s.size) :
    Calls Tryz.prog 108 #[.string s] w fun e w' => e = .returned (.agg #[.int .i64 2, .string ⟨#[]⟩]) ∧ Below w.heap.size w w' := by
  have hh : (2002 : Int) < s.size := by omega
  go_enter Tryz.func108, Tryz.ntmps108
  go_wp2
  exact bodyPost_ret (v := .agg #[.int .i64 2, .string ⟨#[]⟩]) (by simp [results, Tryz.results108, go_sem]) rfl ⟨rfl, (Below.refl _ _).alloc (Nat.le_refl _) _⟩
set_option maxHeartbeats 1000000 in
theorem implUnquote_bad (s : ByteArray) (w : World) (hs : s.size ≤ 2002) (hp : unqB s = false) :
    Calls Tryz.prog 108 #[.string s] w fun e w' => e = .returned (.agg #[.int .i64 5, .string ⟨#[]⟩]) ∧ Below w.heap.size w w' := by
  have hh : ¬ (2002 : Int) < s.size := by omega
  rw [unqB_ends] at hp
  by_cases h1 : s.data.toList.head? = some 34
  · have H1 : Hid (decide (s.data.toList.head? = some 34) = true) := by show _ = _; simpa using h1
    have h0 : 0 < s.size := by
      cases e : s.data.toList with
      | nil => rw [e] at h1; simp at h1
      | cons c t => have := size_list s
                    rw [e] at this; simp only [List.length_cons] at this; omega
    have H2 := quoteEnd_any s 0 (w.alloc (.cells #[.int .i64 0, .string ⟨#[]⟩] 29)) (by omega) h0
    by_cases h2 : qEnd s.data.toList 0 + 1 = s.size
    · have HP : Hid (plainL s.data.toList = false) := by
        show _ = _
        rw [H1.out, show decide (qEnd s.data.toList 0 + 1 = s.size) = true from by simpa using h2] at hp
        simpa using hp
      generalize qEnd s.data.toList 0 = q at *
      have e2 : ((q : Int) != (s.size : Int) - 1) = false := by simp; omega
      clear hp h1
      go_enter Tryz.func108, Tryz.ntmps108
      go_wp2_with fail
      refine (hasQuote_any s _ (by omega)).mono ?_
      rintro e w1 ⟨rfl, rfl⟩
      rw [H1.out]
      go_wp2_with fail
      refine H2.mono ?_
      rintro e w1 ⟨rfl, rfl⟩
      go_wp2_with fail
      refine (allPlain_any s _ (by omega)).mono ?_
      rintro e w1 ⟨rfl, rfl⟩
      rw [HP.out]
      go_wp2
      exact bodyPost_ret (v := .agg #[.int .i64 5, .string ⟨#[]⟩]) (by simp [results, Tryz.results108, go_sem]) rfl ⟨rfl, (Below.refl _ _).alloc (Nat.le_refl _) _⟩
    · have hq := qLen_le (s.data.toList.drop 1)
      generalize hqe : qEnd s.data.toList 0 = q at *
      have e2 : ((q : Int) != (s.size : Int) - 1) = true := by simp; omega
      clear hp h1
      go_enter Tryz.func108, Tryz.ntmps108
      go_wp2_with fail
      refine (hasQuote_any s _ (by omega)).mono ?_
      rintro e w1 ⟨rfl, rfl⟩
      rw [H1.out]
      go_wp2_with fail
      refine H2.mono ?_
      rintro e w1 ⟨rfl, rfl⟩
      go_wp2_with fail
      exact bodyPost_ret (v := .agg #[.int .i64 5, .string ⟨#[]⟩]) (by simp [results, Tryz.results108, go_sem]) rfl ⟨rfl, (Below.refl _ _).alloc (Nat.le_refl _) _⟩
  · have H1 : Hid (decide (s.data.toList.head? = some 34) = false) := by show _ = _; simpa using h1
    clear hp h1
    go_enter Tryz.func108, Tryz.ntmps108
    go_wp2_with fail
    refine (hasQuote_any s _ (by omega)).mono ?_
    rintro e w1 ⟨rfl, rfl⟩
    rw [H1.out]
    go_wp2_with fail
    exact bodyPost_ret (v := .agg #[.int .i64 5, .string ⟨#[]⟩]) (by simp [results, Tryz.results108, go_sem]) rfl ⟨rfl, (Below.refl _ _).alloc (Nat.le_refl _) _⟩
/-- One byte further on, where the quotes end as they should. -/
theorem unq_last {acc l : List UInt8} (h : (unq acc l).2 = true) (hl : l.length = 1) : (unq acc l).1 = acc := by
  match l, hl with
  | [c], _ =>
    by_cases e : (c.toNat : Int) = 34
    · simp only [unq, if_pos e]
    · simp only [unq, if_neg e] at h; cases h
theorem unq_far {acc l : List UInt8} (h : (unq acc l).2 = true) : l ≠ [] := by
  intro e; subst e; simp [unq] at h
set_option maxHeartbeats 4000000 in
theorem implUnquote_any (s : ByteArray) (w : World) (hs : s.size ≤ 2002) (hp : unqB s = true) :
    Calls Tryz.prog 108 #[.string s] w fun e w' => e = .returned (.agg #[.int .i64 0, .string (unqS s)]) ∧ Below w.heap.size w w' := by
  have hh : ¬ (2002 : Int) < s.size := by omega
  have HB : Hid (unqB s = true) := hp
  rw [unqB_ends, Bool.and_eq_true, Bool.and_eq_true, decide_eq_true_iff, decide_eq_true_iff] at hp
  obtain ⟨⟨h1, h2⟩, h3⟩ := hp
  have H1 : Hid (decide (s.data.toList.head? = some 34) = true) := by show _ = _; simpa using h1
  have hq0 : 1 ≤ qEnd s.data.toList 0 := by unfold qEnd; omega
  have h0 : 0 < s.size := by omega
  have HT : Hid (unqT s.data.toList = unq [] (s.data.toList.drop 1)) := unqT_go (by have := size_list s; omega) h1 h3
  have HP : Hid (plainL s.data.toList = true) := h3
  have H2 := quoteEnd_any s 0 (w.alloc (.cells #[.int .i64 0, .string ⟨#[]⟩] 29)) (by omega) h0
  generalize qEnd s.data.toList 0 = q at *
  have e2 : ((q : Int) != (s.size : Int) - 1) = false := by simp; omega
  clear h1 h3
  go_enter Tryz.func108, Tryz.ntmps108
  go_wp2_with fail
  refine (hasQuote_any s _ (by omega)).mono ?_
  rintro e w1 ⟨rfl, rfl⟩
  rw [H1.out]
  go_wp2_with fail
  refine H2.mono ?_
  rintro e w1 ⟨rfl, rfl⟩
  go_wp2_with fail
  refine (allPlain_any s _ (by omega)).mono ?_
  rintro e w1 ⟨rfl, rfl⟩
  rw [HP.out]
  clear HP H1
  go_wp2
  go_loopw [3, 4] (fun v i wr => ∃ (k : Nat) (acc : List UInt8), k < s.size ∧ acc.length ≤ k ∧ i = .int .i64 k ∧ OwnR wr (w.heap.size + 1) v acc ∧ unqT s.data.toList = unq acc (s.data.toList.drop k) ∧ Below (w.heap.size + 1) (w.alloc (.cells #[.int .i64 0, .string ⟨#[]⟩] 29)) wr) (fun _ i _ => s.size - (intOf i).toNat)
  case atStart => exact ⟨1, [], by omega, by simp, rfl, OwnR.nil _ _, HT.out, Below.refl _ _⟩
  case round =>
    obtain ⟨k, acc, hk, ha, rfl, hown, hq, hb⟩ := hrel
    have HO : Hid (OwnR wr (w.heap.size + 1) u3 acc) := hown
    have HQ : Hid (unqT s.data.toList = unq acc (s.data.toList.drop k)) := hq
    have HR : Hid ((unq acc (s.data.toList.drop k)).2 = true) := by
      show _ = _
      rw [← HQ.out]; exact HB.out
    have hz : w.heap.size + 1 ≤ wr.heap.size := by have := hb.size; rwa [World.size_alloc] at this
    have HD : Hid (s.data.toList.drop k = s[k] :: s.data.toList.drop (k + 1)) := drop_at s k hk
    clear hown hq HT
    by_cases hlt : k + 1 < s.size
    · have g0 : (k : Int) < (s.size : Int) - 1 := by omega
      by_cases c2 : (s[k].toNat : Int) = 92
      · have e2 : ((s[k].toNat : Int) == 92) = true := by simpa using c2
        have HE : Hid (unqT s.data.toList = unq (acc ++ [s[k + 1]]) (s.data.toList.drop (k + 2))) := by
          show _ = _
          rw [HQ.out, HD.out, drop_at s (k + 1) hlt, unq_esc _ _ _ _ c2]
        have hk2 : k + 2 < s.size := by
          have h := HB.out
          unfold unqB at h
          rw [HE.out] at h
          have h4 := unq_far h
          have := size_list s
          by_cases h5 : k + 2 < s.size
          · exact h5
          · exact absurd (List.drop_of_length_le (by omega)) h4
        clear HQ HD HR c2
        go_wp2_with (at_builtin; refine wpList_append_byteR _ rfl (.tmp 39) (.tmp 43) rfl (w.heap.size + 1) _ acc _ s[k + 1] rfl rfl HO.out rfl (by omega) hz ?_; intro v2 w2 HO2 hb2 hz2)
        go_roundw
        case rel => exact ⟨k + 2, acc ++ [s[k + 1]], hk2, by simp; omega, by go_num, HO2, HE.out, hb.trans hb2⟩
        case measure => simp [intOf]; omega
      · have e2 : ((s[k].toNat : Int) == 92) = false := by simpa using c2
        have c1 : ¬ (s[k].toNat : Int) = 34 := by
          intro c1
          have h := HR.out
          rw [HD.out, unq_end _ _ _ c1] at h
          have := size_list s
          simp at h
          omega
        have HE : Hid (unqT s.data.toList = unq (acc ++ [s[k]]) (s.data.toList.drop (k + 1))) := by
          show _ = _
          rw [HQ.out, HD.out, unq_take _ _ _ c1 c2]
        clear HQ HD HR c2 c1
        go_wp2_with (at_builtin; refine wpList_append_byteR _ rfl (.tmp 39) (.tmp 43) rfl (w.heap.size + 1) _ acc _ s[k] rfl rfl HO.out rfl (by omega) hz ?_; intro v2 w2 HO2 hb2 hz2)
        go_roundw
        case rel => exact ⟨k + 1, acc ++ [s[k]], by omega, by simp; omega, by go_num, HO2, HE.out, hb.trans hb2⟩
        case measure => simp [intOf]; omega
    · have g0 : ¬ (k : Int) < (s.size : Int) - 1 := by omega
      have HE : Hid ((⟨acc.toArray⟩ : ByteArray) = unqS s) := by
        show _ = _
        unfold unqS
        rw [HQ.out, unq_last HR.out (by have := size_list s; rw [List.length_drop]; omega)]
      have hcv := HO.out.text
      obtain ⟨hzz, p0, p1, f0, f1, kb⟩ := text_room hb
      generalize (⟨acc.toArray⟩ : ByteArray) = r at *
      obtain ⟨q0, q1⟩ := two_set (v0 := .int .i64 0) (v1 := .string r) p0 p1
      clear HQ HD HR
      go_wp2_with fail
      exact bodyPost_ret (v := .agg #[.int .i64 0, .string r]) (by simp [results, Tryz.results108, go_sem, q0, q1]) rfl ⟨by rw [HE.out], (kb.setCell (Nat.le_refl _) _).setCell (Nat.le_refl _) _⟩
end Go.Proofs.YtmnblligifgcjaaGreatDoor
/-
  What itemOf answers.
-/
namespace Go.Proofs.YtmnblligifgcjaaGreatDoor
open Go.ChangeShapes Go.WideShapes Go.ChangeAt Go.RowKit
def ItemOfRes (s : ByteArray) (e : Ending) : Prop := ∃ (r : Rec) (c : Int), e = .returned (.tuple #[.agg #[.string r.name, .bool r.has, .string r.value], .int .i64 c]) ∧ ((c = 0 ∧ readR s = some r) ∨ (c = 5 ∧ readR s = none))
theorem ItemOfRes.no {s : ByteArray} (n : ByteArray) (h : Bool) (v : ByteArray) (hr : readR s = none) : ItemOfRes s (.returned (.tuple #[.agg #[.string n, .bool h, .string v], .int .i64 5])) := ⟨⟨n, h, v⟩, 5, rfl, .inr ⟨rfl, hr⟩⟩
theorem ItemOfRes.yes {s : ByteArray} {n : ByteArray} {h : Bool} {v : ByteArray} (hr : readR s = some ⟨n, h, v⟩) : ItemOfRes s (.returned (.tuple #[.agg #[.string n, .bool h, .string v], .int .i64 0])) := ⟨⟨n, h, v⟩, 0, rfl, .inl ⟨rfl, hr⟩⟩
/-- Three cells of a block that may be written. -/
structure Three (w : World) (B : Nat) (a b c : Value) : Prop where
  c0 : w.cell? ⟨B, 0, none⟩ = some a
  c1 : w.cell? ⟨B, 1, none⟩ = some b
  c2 : w.cell? ⟨B, 2, none⟩ = some c
  f0 : w.frozen? ⟨B, 0, none⟩ = false
  f1 : w.frozen? ⟨B, 1, none⟩ = false
  f2 : w.frozen? ⟨B, 2, none⟩ = false
theorem Three.keep {w w' : World} {B : Nat} {a b c : Value} (h : Three w B a b c) (hb : Below w.heap.size w w') : Three w' B a b c where
  c0 := by rw [hb.cell (block_lt_of_cell h.c0)]; exact h.c0
  c1 := by rw [hb.cell (block_lt_of_cell h.c1)]; exact h.c1
  c2 := by rw [hb.cell (block_lt_of_cell h.c2)]; exact h.c2
  f0 := by rw [hb.frozen (block_lt_of_cell h.c0)]; exact h.f0
  f1 := by rw [hb.frozen (block_lt_of_cell h.c1)]; exact h.f1
  f2 := by rw [hb.frozen (block_lt_of_cell h.c2)]; exact h.f2
theorem Three.new (w : World) (a b c : Value) (t : TypeId) : Three (w.alloc (.cells #[a, b, c] t)) w.heap.size a b c where
  c0 := by simp
  c1 := by simp
  c2 := by simp
  f0 := by simp
  f1 := by simp
  f2 := by simp
theorem Three.alloc {w : World} {B : Nat} {a b c : Value} (h : Three w B a b c) (o : Obj) : Three (w.alloc o) B a b c := h.keep ((Below.refl _ _).alloc (Nat.le_refl _) _)
theorem Three.lt {w : World} {B : Nat} {a b c : Value} (h : Three w B a b c) : B < w.heap.size := block_lt_of_cell h.c0
theorem put_alloc {w w3 : World} (h : Below w.heap.size w w3) (a b c : Value) (o : Obj) : Below w.heap.size w ((((w3.setCell ⟨w.heap.size, 0, none⟩ a).setCell ⟨w.heap.size, 1, none⟩ b).setCell ⟨w.heap.size, 2, none⟩ c).alloc o) := by
  have k := ((h.setCell (p := ⟨w.heap.size, 0, none⟩) (Nat.le_refl _) a).setCell (p := ⟨w.heap.size, 1, none⟩) (Nat.le_refl _) b).setCell (p := ⟨w.heap.size, 2, none⟩) (Nat.le_refl _) c
  exact k.alloc k.size _
set_option maxRecDepth 100000 in
set_option maxHeartbeats 4000000 in
theorem itemOf_bare (s : ByteArray) (w : World) (hset : SetIs w) (hs : s.size ≤ 1000) (h : ¬ eqAt s.data.toList < s.size) :
    Calls Tryz.prog 96 #[.string s] w fun e w' => ItemOfRes s e ∧ Below w.heap.size w w' := by
  have hle := eqAt_le s.data.toList
  rw [size_list] at hle
  have hk : eqAt s.data.toList = s.size := by omega
  have R1 := @read_noname s
  have R2 := @read_bare s
  rw [hk] at R1 R2
  have ee : s.extract 0 s.size = s := ByteArray.extract_zero_size
  rw [ee] at R1 R2
  have RR : Hid ((wordS s = false → readR s = none) ∧ (wordS s = true → readR s = some ⟨s, false, ⟨#[]⟩⟩)) := ⟨R1, fun h => R2 h rfl⟩
  clear R1 R2
  have HC := fun w => cutS_of s w _ _ _ (cut_no s w h)
  have HCC : Hid (∀ w, Calls Tryz.prog 107 #[.string s, .string ⟨#[61]⟩] w fun e w' => e = .returned (.tuple #[.string s, .string ⟨#[]⟩, .bool false]) ∧ Below w.heap.size w w') := HC
  have HS : Hid (SetIs w) := hset
  clear hle hk HC hset ee h
  have T0 : Hid (Three (w.alloc (.cells #[.string ⟨#[]⟩, .bool false, .string ⟨#[]⟩] 64)) w.heap.size (.string ⟨#[]⟩) (.bool false) (.string ⟨#[]⟩)) := Three.new w _ _ _ _
  have KB0 : Hid (Below w.heap.size w (w.alloc (.cells #[.string ⟨#[]⟩, .bool false, .string ⟨#[]⟩] 64))) := (Below.refl _ _).alloc (Nat.le_refl _) _
  go_enter Tryz.func96, Tryz.ntmps96
  go_wp2_with fail
  refine (HCC.out _).mono ?_
  rintro e w1 ⟨rfl, hb1⟩
  have T1 : Hid (Three w1 w.heap.size (.string ⟨#[]⟩) (.bool false) (.string ⟨#[]⟩)) := T0.out.keep hb1
  have KB1 : Hid (Below w.heap.size w w1) := KB0.out.trans (hb1.mono KB0.out.size)
  clear hb1 T0 KB0 HCC
  go_wp2_with fail
  refine (implIsWord_set s w1 (HS.out.below KB1.out)).mono ?_
  rintro e w2 ⟨rfl, hb2⟩
  have T2 : Three w2 w.heap.size (.string ⟨#[]⟩) (.bool false) (.string ⟨#[]⟩) := T1.out.keep hb2
  have KB2 : Hid (Below w.heap.size w w2) := KB1.out.trans (hb2.mono KB1.out.size)
  clear hb2 T1 KB1 HS
  obtain ⟨c0, c1, c2, f0, f1, f2⟩ := T2
  cases hw : wordS s
  · have HR : Hid (readR s = none) := RR.out.1 hw
    clear RR hw
    obtain ⟨r0, r1, r2⟩ := three_set (v0 := .string ⟨#[]⟩) (v1 := .bool false) (v2 := .string ⟨#[]⟩) c0 c1 c2
    go_wp2_with fail
    exact bodyPost_ret (v := .tuple #[.agg #[.string ⟨#[]⟩, .bool false, .string ⟨#[]⟩], .int .i64 5]) (by simp [results, Tryz.results96, go_sem, r0, r1, r2]) rfl ⟨ItemOfRes.no _ _ _ HR.out, ((KB2.out.setCell (Nat.le_refl _) _).setCell (Nat.le_refl _) _).setCell (Nat.le_refl _) _⟩
  · have HR : Hid (readR s = some ⟨s, false, ⟨#[]⟩⟩) := RR.out.2 hw
    have T2 : Hid (Three w2 w.heap.size (.string ⟨#[]⟩) (.bool false) (.string ⟨#[]⟩)) := ⟨c0, c1, c2, f0, f1, f2⟩
    clear RR hw c0 c1 c2 f0 f1 f2
    go_wp2_with fail
    refine (clone_text s w2 (by omega)).mono ?_
    rintro e w3 ⟨rfl, hb3⟩
    have T3 : Three w3 w.heap.size (.string ⟨#[]⟩) (.bool false) (.string ⟨#[]⟩) := T2.out.keep hb3
    have KB3 : Hid (Below w.heap.size w w3) := KB2.out.trans (hb3.mono KB2.out.size)
    have hlt := T3.lt
    obtain ⟨r0, r1, r2⟩ := three_set (v0 := .string s) (v1 := .bool false) (v2 := .string ⟨#[]⟩) T3.c0 T3.c1 T3.c2
    have r0 := f_keepA (.cells #[.string s, .bool false, .string ⟨#[]⟩] 64) r0
    have r1 := f_keepA (.cells #[.string s, .bool false, .string ⟨#[]⟩] 64) r1
    have r2 := f_keepA (.cells #[.string s, .bool false, .string ⟨#[]⟩] 64) r2
    obtain ⟨c0, c1, c2, f0, f1, f2⟩ := T3
    clear hb3 T2 KB2
    go_wp2_with fail
    exact bodyPost_ret (v := .tuple #[.agg #[.string s, .bool false, .string ⟨#[]⟩], .int .i64 0]) (by simp [results, Tryz.results96, go_sem, r0, r1, r2]) rfl ⟨ItemOfRes.yes HR.out, put_alloc KB3.out _ _ _ _⟩
end Go.Proofs.YtmnblligifgcjaaGreatDoor
/-
  What itemOf answers where there is a sign of equality; at every piece.
-/
namespace Go.Proofs.YtmnblligifgcjaaGreatDoor
open Go.ChangeShapes Go.WideShapes Go.ChangeAt Go.RowKit
theorem ext_size (s : ByteArray) (i j : Nat) (hs : s.size ≤ 1000) : (s.extract i j).size ≤ 1000 := by simp; omega
theorem put4 {w w3 : World} {B : Nat} (h : Below w.heap.size w w3) (hB : w.heap.size ≤ B) (u a b c : Value) : Below w.heap.size w ((((w3.setCell ⟨B, 2, none⟩ u).setCell ⟨w.heap.size, 0, none⟩ a).setCell ⟨w.heap.size, 1, none⟩ b).setCell ⟨w.heap.size, 2, none⟩ c) :=
  (((h.setCell (p := ⟨B, 2, none⟩) hB u).setCell (p := ⟨w.heap.size, 0, none⟩) (Nat.le_refl _) a).setCell (p := ⟨w.heap.size, 1, none⟩) (Nat.le_refl _) b).setCell (p := ⟨w.heap.size, 2, none⟩) (Nat.le_refl _) c
set_option maxRecDepth 100000 in
set_option maxHeartbeats 8000000 in
theorem itemOf_has (s : ByteArray) (w : World) (hset : SetIs w) (hs : s.size ≤ 1000) (h : eqAt s.data.toList < s.size) :
    Calls Tryz.prog 96 #[.string s] w fun e w' => ItemOfRes s e ∧ Below w.heap.size w w' := by
  have hne : eqAt s.data.toList ≠ s.size := by omega
  have R1 := @read_noname s
  have R3 := fun a => @read_word s a hne
  have R4 := fun a => @read_quote s a hne
  have R5 := fun a => @read_bad s a hne
  have HC := fun w => cutS_of s w _ _ _ (cut_yes s w hs h)
  have hnz := ext_size s 0 (eqAt s.data.toList) hs
  have hrz := ext_size s (eqAt s.data.toList + 1) s.size hs
  generalize s.extract 0 (eqAt s.data.toList) = nm at *
  generalize s.extract (eqAt s.data.toList + 1) s.size = rs at *
  have RR : Hid ((wordS nm = false → readR s = none) ∧ (wordS nm = true → wordS rs = true → readR s = some ⟨nm, true, rs⟩) ∧ (wordS nm = true → wordS rs = false → unqB rs = true → readR s = some ⟨nm, true, unqS rs⟩) ∧ (wordS nm = true → wordS rs = false → unqB rs = false → readR s = none)) := ⟨R1, R3, R4, R5⟩
  have HCC : Hid (∀ w, Calls Tryz.prog 107 #[.string s, .string ⟨#[61]⟩] w fun e w' => e = .returned (.tuple #[.string nm, .string rs, .bool true]) ∧ Below w.heap.size w w') := HC
  have HS : Hid (SetIs w) := hset
  clear R1 R3 R4 R5 HC hset h hne
  have T0 : Hid (Three (w.alloc (.cells #[.string ⟨#[]⟩, .bool false, .string ⟨#[]⟩] 64)) w.heap.size (.string ⟨#[]⟩) (.bool false) (.string ⟨#[]⟩)) := Three.new w _ _ _ _
  have KB0 : Hid (Below w.heap.size w (w.alloc (.cells #[.string ⟨#[]⟩, .bool false, .string ⟨#[]⟩] 64))) := (Below.refl _ _).alloc (Nat.le_refl _) _
  go_enter Tryz.func96, Tryz.ntmps96
  go_wp2_with fail
  refine (HCC.out _).mono ?_
  rintro e w1 ⟨rfl, hb1⟩
  have T1 : Hid (Three w1 w.heap.size (.string ⟨#[]⟩) (.bool false) (.string ⟨#[]⟩)) := T0.out.keep hb1
  have KB1 : Hid (Below w.heap.size w w1) := KB0.out.trans (hb1.mono KB0.out.size)
  clear hb1 T0 KB0 HCC
  go_wp2_with fail
  refine (implIsWord_set nm w1 (HS.out.below KB1.out)).mono ?_
  rintro e w2 ⟨rfl, hb2⟩
  have T2 : Hid (Three w2 w.heap.size (.string ⟨#[]⟩) (.bool false) (.string ⟨#[]⟩)) := T1.out.keep hb2
  have KB2 : Hid (Below w.heap.size w w2) := KB1.out.trans (hb2.mono KB1.out.size)
  clear hb2 T1 KB1
  cases hw : wordS nm
  · have HR : Hid (readR s = none) := RR.out.1 hw
    clear RR hw HS
    obtain ⟨c0, c1, c2, f0, f1, f2⟩ := T2.out
    obtain ⟨r0, r1, r2⟩ := three_set (v0 := .string ⟨#[]⟩) (v1 := .bool false) (v2 := .string ⟨#[]⟩) c0 c1 c2
    go_wp2_with fail
    exact bodyPost_ret (v := .tuple #[.agg #[.string ⟨#[]⟩, .bool false, .string ⟨#[]⟩], .int .i64 5]) (by simp [results, Tryz.results96, go_sem, r0, r1, r2]) rfl ⟨ItemOfRes.no _ _ _ HR.out, ((KB2.out.setCell (Nat.le_refl _) _).setCell (Nat.le_refl _) _).setCell (Nat.le_refl _) _⟩
  have R2 : Hid ((wordS rs = true → readR s = some ⟨nm, true, rs⟩) ∧ (wordS rs = false → unqB rs = true → readR s = some ⟨nm, true, unqS rs⟩) ∧ (wordS rs = false → unqB rs = false → readR s = none)) := ⟨RR.out.2.1 hw, RR.out.2.2.1 hw, RR.out.2.2.2 hw⟩
  clear RR hw
  go_wp2_with fail
  refine (clone_text nm w2 (by omega)).mono ?_
  rintro e w3 ⟨rfl, hb3⟩
  have T3 : Hid (Three w3 w.heap.size (.string ⟨#[]⟩) (.bool false) (.string ⟨#[]⟩)) := T2.out.keep hb3
  have KB3 : Hid (Below w.heap.size w w3) := KB2.out.trans (hb3.mono KB2.out.size)
  have S4 : Hid (SetIs (w3.alloc (.cells #[.string nm, .bool true, .string ⟨#[]⟩] 64))) := (HS.out.below KB3.out).below ((Below.refl _ _).alloc (Nat.le_refl _) _)
  have T4 : Hid (Three (w3.alloc (.cells #[.string nm, .bool true, .string ⟨#[]⟩] 64)) w.heap.size (.string ⟨#[]⟩) (.bool false) (.string ⟨#[]⟩)) := T3.out.alloc _
  have U4 : Hid (Three (w3.alloc (.cells #[.string nm, .bool true, .string ⟨#[]⟩] 64)) w3.heap.size (.string nm) (.bool true) (.string ⟨#[]⟩)) := Three.new w3 _ _ _ _
  have KB4 : Hid (Below w.heap.size w (w3.alloc (.cells #[.string nm, .bool true, .string ⟨#[]⟩] 64))) := KB3.out.alloc KB3.out.size _
  have hBB : w.heap.size < w3.heap.size := T3.out.lt
  clear hb3 T2 KB2 T3 KB3 HS
  go_wp2_with fail
  refine (implIsWord_set rs _ S4.out).mono ?_
  rintro e w5 ⟨rfl, hb5⟩
  have T5 : Hid (Three w5 w.heap.size (.string ⟨#[]⟩) (.bool false) (.string ⟨#[]⟩)) := T4.out.keep hb5
  have U5 : Hid (Three w5 w3.heap.size (.string nm) (.bool true) (.string ⟨#[]⟩)) := U4.out.keep hb5
  have KB5 : Hid (Below w.heap.size w w5) := KB4.out.trans (hb5.mono KB4.out.size)
  clear hb5 T4 U4 KB4 S4
  generalize w3.heap.size = B1 at *
  clear w3
  have hBn : w.heap.size ≠ B1 := by omega
  cases hv : wordS rs
  · have R3 : Hid ((unqB rs = true → readR s = some ⟨nm, true, unqS rs⟩) ∧ (unqB rs = false → readR s = none)) := ⟨R2.out.2.1 hv, R2.out.2.2 hv⟩
    clear R2 hv
    cases hu : unqB rs
    · have HR : Hid (readR s = none) := R3.out.2 hu
      have HU : Hid (Calls Tryz.prog 108 #[.string rs] w5 fun e w' => e = .returned (.agg #[.int .i64 5, .string ⟨#[]⟩]) ∧ Below w5.heap.size w5 w') := implUnquote_bad rs w5 (by omega) hu
      clear R3 hu
      go_wp2_with fail
      refine HU.out.mono ?_
      rintro e w6 ⟨rfl, hb6⟩
      have T6 := T5.out.keep hb6
      have KB6 : Hid (Below w.heap.size w w6) := KB5.out.trans (hb6.mono KB5.out.size)
      have hl6 := T6.lt
      obtain ⟨r0, r1, r2⟩ := three_set (v0 := .string ⟨#[]⟩) (v1 := .bool false) (v2 := .string ⟨#[]⟩) T6.c0 T6.c1 T6.c2
      have r0 := f_keepA (.cells #[.int .i64 5, .string ⟨#[]⟩] 29) r0
      have r1 := f_keepA (.cells #[.int .i64 5, .string ⟨#[]⟩] 29) r1
      have r2 := f_keepA (.cells #[.int .i64 5, .string ⟨#[]⟩] 29) r2
      obtain ⟨c0, c1, c2, f0, f1, f2⟩ := T6
      clear hb6 HU T5 U5 KB5
      go_wp2_with fail
      exact bodyPost_ret (v := .tuple #[.agg #[.string ⟨#[]⟩, .bool false, .string ⟨#[]⟩], .int .i64 5]) (by simp [results, Tryz.results96, go_sem, r0, r1, r2]) rfl ⟨ItemOfRes.no _ _ _ HR.out, put_alloc KB6.out _ _ _ _⟩
    · have HR : Hid (readR s = some ⟨nm, true, unqS rs⟩) := R3.out.1 hu
      have HU : Hid (Calls Tryz.prog 108 #[.string rs] w5 fun e w' => e = .returned (.agg #[.int .i64 0, .string (unqS rs)]) ∧ Below w5.heap.size w5 w') := implUnquote_any rs w5 (by omega) hu
      clear R3 hu
      generalize unqS rs = uv at *
      go_wp2_with fail
      refine HU.out.mono ?_
      rintro e w6 ⟨rfl, hb6⟩
      have T6 := T5.out.keep hb6
      have U6 := U5.out.keep hb6
      have KB6 : Hid (Below w.heap.size w w6) := KB5.out.trans (hb6.mono KB5.out.size)
      have hl6 := T6.lt
      have hm6 := U6.lt
      obtain ⟨x0, x1, x2, y0, y1, y2, z0, z1, z2⟩ := item_put (v := .string uv) hBn T6.c0 T6.c1 T6.c2 T6.f0 T6.f1 T6.f2 U6.c0 U6.c1 U6.c2
      obtain ⟨r0, r1, r2⟩ := three_set (v0 := .string nm) (v1 := .bool true) (v2 := .string uv) y0 y1 y2
      have r0 := f_keepA (.cells #[.int .i64 0, .string uv] 29) r0
      have r1 := f_keepA (.cells #[.int .i64 0, .string uv] 29) r1
      have r2 := f_keepA (.cells #[.int .i64 0, .string uv] 29) r2
      obtain ⟨c0, c1, c2, f0, f1, f2⟩ := T6
      obtain ⟨d0, d1, d2, g0, g1, g2⟩ := U6
      have hkb := put4 KB6.out (by omega : w.heap.size ≤ B1) (.string uv) (.string nm) (.bool true) (.string uv)
      have HKB : Hid (Below w.heap.size w (((((w6.setCell ⟨B1, 2, none⟩ (.string uv)).setCell ⟨w.heap.size, 0, none⟩ (.string nm)).setCell ⟨w.heap.size, 1, none⟩ (.bool true)).setCell ⟨w.heap.size, 2, none⟩ (.string uv)).alloc (.cells #[.int .i64 0, .string uv] 29))) := hkb.alloc hkb.size _
      clear hb6 HU T5 U5 KB5 hkb
      go_wp2_with fail
      exact bodyPost_ret (v := .tuple #[.agg #[.string nm, .bool true, .string uv], .int .i64 0]) (by simp [results, Tryz.results96, go_sem, r0, r1, r2]) rfl ⟨ItemOfRes.yes HR.out, HKB.out⟩
  · have HR : Hid (readR s = some ⟨nm, true, rs⟩) := R2.out.1 hv
    clear R2 hv
    go_wp2_with fail
    refine (clone_text rs w5 (by omega)).mono ?_
    rintro e w6 ⟨rfl, hb6⟩
    have T6 := T5.out.keep hb6
    have U6 := U5.out.keep hb6
    have KB6 : Hid (Below w.heap.size w w6) := KB5.out.trans (hb6.mono KB5.out.size)
    obtain ⟨x0, x1, x2, y0, y1, y2, z0, z1, z2⟩ := item_put (v := .string rs) hBn T6.c0 T6.c1 T6.c2 T6.f0 T6.f1 T6.f2 U6.c0 U6.c1 U6.c2
    obtain ⟨r0, r1, r2⟩ := three_set (v0 := .string nm) (v1 := .bool true) (v2 := .string rs) y0 y1 y2
    obtain ⟨c0, c1, c2, f0, f1, f2⟩ := T6
    obtain ⟨d0, d1, d2, g0, g1, g2⟩ := U6
    have HKB : Hid (Below w.heap.size w ((((w6.setCell ⟨B1, 2, none⟩ (.string rs)).setCell ⟨w.heap.size, 0, none⟩ (.string nm)).setCell ⟨w.heap.size, 1, none⟩ (.bool true)).setCell ⟨w.heap.size, 2, none⟩ (.string rs))) := put4 KB6.out (by omega : w.heap.size ≤ B1) _ _ _ _
    clear hb6 T5 U5 KB5
    go_wp2_with fail
    exact bodyPost_ret (v := .tuple #[.agg #[.string nm, .bool true, .string rs], .int .i64 0]) (by simp [results, Tryz.results96, go_sem, r0, r1, r2]) rfl ⟨ItemOfRes.yes HR.out, HKB.out⟩
theorem itemOf_any (s : ByteArray) (w : World) (hset : SetIs w) (hs : s.size ≤ 1000) :
    Calls Tryz.prog 96 #[.string s] w fun e w' => ItemOfRes s e ∧ Below w.heap.size w w' := by
  by_cases h : eqAt s.data.toList < s.size
  · exact itemOf_has s w hset hs h
  · exact itemOf_bare s w hset hs h
end Go.Proofs.YtmnblligifgcjaaGreatDoor
/-
  What the teller of itemsOf does, for every loop body.
-/
namespace Go.Proofs.YtmnblligifgcjaaGreatDoor
open Go.ChangeShapes Go.WideShapes Go.ChangeAt Go.RowKit Go.Shelf
attribute [local go_sem] Oper.semAt_some
theorem ascii_set {l : List UInt8} (h : (l.all fun b => decide (b.toNat < 128)) = true) : ∀ (j : Nat) b, l[j]? = some b → b.toNat < 128 := fun _ b hb => by
  have := List.all_eq_true.1 h b (List.mem_of_getElem? hb)
  simpa using this
theorem trim_lib2 (s : ByteArray) (w : World) (hs : s.size ≤ 1000) :
    Calls Tryz.prog 70 #[.string s, .string ⟨#[32, 9]⟩] w fun e w' => e = .returned (.string (trimT s)) ∧ Below w.heap.size w w' :=
  Any.strings_Trim_laid Tryz.lays160 (by kernel_rfl) s ⟨#[32, 9]⟩ w (by omega) (by decide) (ascii_set (by decide))
theorem setIs_belowN {w w' : World} {n : Nat} (h : SetIs w) (hb : Below n w w') (hn : 0 < n) : SetIs w' := by
  obtain ⟨cs, tt, fr, hg, h1, h2⟩ := h
  exact ⟨cs, tt, fr, by rw [hb.block 0 hn, hg], h1, h2⟩
def encX (x : Rec × Int) : Array Value := #[.agg #[.string x.1.name, .bool x.1.has, .string x.1.value], .int .i64 x.2]
/-- What a round that goes on keeps. -/
def KeepT (n₀ Bt : Nat) (s : ByteArray) (W W' : World) : Prop := Below n₀ W W' ∧ (W.cell? ⟨Bt, 0, none⟩ = some (.string s) → W'.cell? ⟨Bt, 0, none⟩ = some (.string s))
theorem grown_of {W W' : World} (h : Below W.heap.size W W') : W.grownBy W' none := ⟨h.os, h.tape, h.output, h.size, fun k hk _ => h.block k hk⟩
set_option maxRecDepth 100000 in
set_option maxHeartbeats 8000000 in
theorem tell_in (n : Nat) (hn : 1 ≤ n) (l Bt n₀ : Nat) (s : ByteArray) (hs : s.size ≤ 1000) (hG : 0 < n₀) (J Jx : List (Rec × Int) → World → Prop)
    (hJ : ∀ pre W W', J pre W → W.grownBy W' none → J pre W')
    (hY : ∀ pre x W, J pre W → pre.length < 1002 → YieldAt Fence.wide (n - 1) Tryz.prog l (encX x) W fun e W' =>
      (e = .returned (.bool true) ∧ J (pre ++ [x]) W' ∧ KeepT n₀ Bt s W W') ∨ (e = .returned (.bool false) ∧ Jx (pre ++ [x]) W'))
    (W : World) (hc : W.cell? ⟨Bt, 0, none⟩ = some (.string s)) (hset : SetIs W) (h0 : J [] W) :
    CallsIn Fence.wide n Tryz.prog 94 #[.func (.yield l) #[] #[], .pointer (some ⟨Bt, 0, none⟩)] W fun e W' => (∃ v, e = .returned v) ∧
      ((∃ ys, AllTell (trims (pcs false [] s.data.toList)) ys ∧ J ys W') ∨ (∃ pre, (∃ d, d <+: trims (pcs false [] s.data.toList) ∧ AllTell d pre) ∧ Jx pre W')) := by
  have hT := (pcs_small s.data.toList.length s.data.toList false [] (Nat.le_refl _)).2
  rw [size_list] at hT
  have hTl := trims_len (pcs false [] s.data.toList)
  have HY : Hid (∀ pre x W, J pre W → pre.length < 1002 → YieldAt Fence.wide (n - 1) Tryz.prog l (encX x) W fun e W' =>
      (e = .returned (.bool true) ∧ J (pre ++ [x]) W' ∧ KeepT n₀ Bt s W W') ∨ (e = .returned (.bool false) ∧ Jx (pre ++ [x]) W')) := hY
  have HJ : Hid (∀ pre W W', J pre W → W.grownBy W' none → J pre W') := hJ
  clear hY hJ
  refine callsIn_of_wp Tryz.func94 rfl trivial ?_ rfl
  simp only [Tryz.ntmps94, List.size_toArray, List.length_cons, List.length_nil, Nat.reduceAdd, Nat.reduceSub, Array.replicate_succ, Array.replicate_zero, List.push_toArray, List.append_toArray, List.nil_append, List.cons_append]
  gi_wp2
  gi_loopw [3] (fun b wr => ∃ (k : Nat) (done : List ByteArray) (pre : List (Rec × Int)), b = .int .i64 k ∧ k ≤ s.size + 1 ∧ TellAt s done k ∧ AllTell done pre ∧ J pre wr ∧ wr.cell? ⟨Bt, 0, none⟩ = some (.string s) ∧ SetIs wr ∧ done.length ≤ (trims (pcs false [] s.data.toList)).length) (fun b _ => s.size + 1 - (intOf b).toNat)
  case atStart => exact ⟨0, [], [], rfl, Nat.zero_le _, .inl ⟨Nat.zero_le _, rfl⟩, trivial, h0, hc, hset, Nat.zero_le _⟩
  case round =>
    obtain ⟨k, done, pre, rfl, hk, hta, htl, hJs, hcs, hsets, hdl⟩ := hrel
    have HA : Hid (TellAt s done k) := hta
    have HL : Hid (AllTell done pre) := htl
    have HS : Hid (SetIs wr) := hsets
    have HJs : Hid (J pre wr) := hJs
    clear hta htl hsets hJs hc hset h0
    by_cases hlt : k < s.size
    · have g : (k : Int) < s.size := by omega
      have hpe : pEnd s.data.toList k ≤ s.size ∧ k ≤ pEnd s.data.toList k := by
        have hp := peS_le _ (s.data.toList.drop k) false (Nat.le_refl _)
        rw [List.length_drop, size_list] at hp
        unfold pEnd; omega
      have HX : Hid (s.extract k (pEnd s.data.toList k) = mkB ((s.data.toList.drop k).take (pEnd s.data.toList k - k))) := ext_mk _ _ _
      have hxz := ext_size s k (pEnd s.data.toList k) hs
      have A1 := HA.out.skip hlt
      have A2 := HA.out.take hlt
      have PE := pieceEnd_any s k wr hs hlt
      rw [← HX.out] at A1 A2
      generalize pEnd s.data.toList k = q at *
      have TR := fun w => trim_lib2 (s.extract k q) w hxz
      have htz : (trimT (s.extract k q)).size ≤ 1000 := Nat.le_trans (trim_le _) hxz
      generalize trimT (s.extract k q) = t at *
      have HPE : Hid (Calls Tryz.prog 95 #[.string s, .int .i64 k] wr fun e w' => e = .returned (.int .i64 (q : Int)) ∧ w' = wr) := PE
      have HTR : Hid (∀ w, Calls Tryz.prog 70 #[.string (s.extract k q), .string ⟨#[32, 9]⟩] w fun e w' => e = .returned (.string t) ∧ Below w.heap.size w w') := TR
      have gq0 : (0 : Int) ≤ k := by omega
      have gq1 : (k : Int) ≤ q := by omega
      have gq2 : (q : Int) ≤ s.size := by omega
      clear PE TR HX HA
      by_cases ht0 : t.size = 0
      · have HA1 : Hid (TellAt s done (q + 1)) := A1 ht0
        have ht := str_nil ht0
        subst ht
        clear A1 A2 ht0
        gi_wp2_with (first
          | (refine ⟨trivial, ?_⟩; gi_at_call 95; refine (callsIn_wide.2 HPE.out).mono ?_; rintro e w1 ⟨rfl, rfl⟩)
          | (refine ⟨trivial, ?_⟩; gi_at_call 70; refine (callsIn_wide.2 (HTR.out _)).mono ?_; rintro e w2 ⟨rfl, hb2⟩))
        refine ⟨trivial, ?_⟩
        gi_wp2
        refine ⟨fun _ h => (by cases h), ?_⟩
        gi_wp2
        go_roundw
        case rel => exact ⟨q + 1, done, pre, by go_num, by omega, HA1.out, HL.out, HJ.out _ _ _ HJs.out (grown_of hb2), f_keep hb2 hcs, HS.out.below hb2, hdl⟩
        case measure => simp [intOf]; omega
      · obtain ⟨ha2, hpre⟩ := A2 ht0
        have HA2 : Hid (TellAt s (done ++ [t]) (q + 1)) := ha2
        have HPF : Hid ((done ++ [t]) <+: trims (pcs false [] s.data.toList)) := hpre
        have hte := str_some ht0
        have hpl : pre.length < 1002 := by
          have h1 := tells_len HL.out
          omega
        clear A1 A2 ht0 ha2 hpre
        gi_wp2_with (first
          | (refine ⟨trivial, ?_⟩; gi_at_call 95; refine (callsIn_wide.2 HPE.out).mono ?_; rintro e w1 ⟨rfl, rfl⟩)
          | (refine ⟨trivial, ?_⟩; gi_at_call 70; refine (callsIn_wide.2 (HTR.out _)).mono ?_; rintro e w2 ⟨rfl, hb2⟩)
          | (refine ⟨trivial, ?_⟩; gi_at_call 96; refine (callsIn_wide.2 (itemOf_any t _ (HS.out.below hb2) htz)).mono ?_; rintro e w3 ⟨⟨⟨rn, rh, rv⟩, rc, rfl, hres⟩, hb3⟩; have hJ3 := HJ.out _ _ _ (HJ.out _ _ _ HJs.out (grown_of hb2)) (grown_of hb3); obtain ⟨fn, tmps, assign, body, hy, hR⟩ := HY.out pre (⟨rn, rh, rv⟩, rc) w3 hJ3 hpl; dsimp only [encX] at hy))
        refine hR.mono ?_
        rintro e W3 (⟨rfl, hJ4, hk4⟩ | ⟨rfl, hJx4⟩)
        · have hc4 := hk4.2 (f_keep hb3 (f_keep hb2 hcs))
          have hs4 : SetIs W3 := setIs_belowN ((HS.out.below hb2).below hb3) hk4.1 hG
          have htell : Tells t (⟨rn, rh, rv⟩, rc) := hres
          have HFIN : Hid (AllTell (done ++ [t]) (pre ++ [(⟨rn, rh, rv⟩, rc)]) ∧ J (pre ++ [(⟨rn, rh, rv⟩, rc)]) W3 ∧ W3.cell? ⟨Bt, 0, none⟩ = some (.string s) ∧ SetIs W3 ∧ (done ++ [t]).length ≤ (trims (pcs false [] s.data.toList)).length) := ⟨tells_snoc HL.out htell, hJ4, hc4, hs4, HPF.out.length_le⟩
          clear hc4 hs4 htell hJ4 hk4 hy hR hJ3
          gi_wp2
          go_roundw
          case rel => exact ⟨q + 1, done ++ [t], pre ++ [(⟨rn, rh, rv⟩, rc)], by go_num, by omega, HA2.out, HFIN.out.1, HFIN.out.2.1, HFIN.out.2.2.1, HFIN.out.2.2.2.1, HFIN.out.2.2.2.2⟩
          case measure => simp [intOf]; omega
        · have htell : Tells t (⟨rn, rh, rv⟩, rc) := hres
          have HFIN : Hid (AllTell (done ++ [t]) (pre ++ [(⟨rn, rh, rv⟩, rc)])) := tells_snoc HL.out htell
          gi_wp2
          refine bodyPost_ret (results_none rfl _ _ _) rfl ?_
          exact ⟨⟨_, rfl⟩, .inr ⟨pre ++ [(⟨rn, rh, rv⟩, rc)], ⟨done ++ [t], HPF.out, HFIN.out⟩, hJx4⟩⟩
    · have HT : Hid (trims (pcs false [] s.data.toList) = done) := HA.out.over hlt
      have g : ¬ (k : Int) < s.size := by omega
      clear HA HY HJ
      gi_wp2
      go_end0
      exact ⟨⟨_, rfl⟩, .inl ⟨pre, by rw [HT.out]; exact HL.out, HJs.out⟩⟩
end Go.Proofs.YtmnblligifgcjaaGreatDoor
/-
  What ParseItems answers.
-/
namespace Go.Proofs.YtmnblligifgcjaaGreatDoor
open Go.ChangeShapes Go.WideShapes Go.ChangeAt Go.RowKit Go.Shelf
attribute [local go_sem] Oper.semAt_some
set_option maxHeartbeats 1000000 in
theorem itemsOf_any (s : ByteArray) (w : World) :
    Calls Tryz.prog 75 #[.string s] w fun e w' => e = .returned (.func (.func 94) #[] #[.pointer (some ⟨w.heap.size, 0, none⟩)]) ∧ w' = w.alloc (.cells #[.string s] 9) := by
  go_enter Tryz.func75, Tryz.ntmps75
  go_wp2
  go_ret
  exact ⟨rfl, rfl⟩
theorem tell_stops (n : Nat) (hn : 1 ≤ n) (Bt n₀ : Nat) (s : ByteArray) (hs : s.size ≤ 1000) (hG : 0 < n₀) (w : World) (hBt : Bt < w.heap.size) (hc : w.cell? ⟨Bt, 0, none⟩ = some (.string s)) (hset : SetIs w) :
    SeqStopsK Fence.wide n Tryz.prog 94 #[.pointer (some ⟨Bt, 0, none⟩)] encX (KeepT n₀ Bt s) (fun ys => AllTell (trims (pcs false [] s.data.toList)) ys) (fun pre => ∃ d, d <+: trims (pcs false [] s.data.toList) ∧ AllTell d pre) 1002 w := fun l J Jx W hW hJ _ hY h0 =>
  tell_in n hn l Bt n₀ s hs hG J Jx (fun pre W1 W2 h hg => hJ pre W1 W2 none h hg (fun r e => by cases e)) hY W ((hW.cell (p := ⟨Bt, 0, none⟩) hBt).trans hc) (hset.below hW) h0
theorem keepT_t {n₀ Bt : Nat} {s : ByteArray} {A B C : World} (h : KeepT n₀ Bt s A B) (k : KeepT n₀ Bt s B C) : KeepT n₀ Bt s A C := ⟨h.1.trans k.1, fun x => k.2 (h.2 x)⟩
theorem keepT_b {n₀ Bt : Nat} {s : ByteArray} {w : World} (hn : n₀ ≤ w.heap.size) (W : World) (l : Nat) (o o' : Obj) (hl : w.heap.size ≤ l) (ho : W.heap[l]? = some o) (h1 : o.isCells = false) (h2 : o.isWalk = false) : KeepT n₀ Bt s W (W.putObj l o') := by
  refine ⟨belowK_b hn W l o o' hl ho h1 h2, fun hc => ?_⟩
  exact cell_kept hc (grownBy_putObj' W l o') (fun r e => by cases e; exact ⟨_, ho, h1⟩)
end Go.Proofs.YtmnblligifgcjaaGreatDoor
/-
  What the loop of ParseItems keeps between two rounds.
-/
namespace Go.Proofs.YtmnblligifgcjaaGreatDoor
open Go.ChangeShapes Go.WideShapes Go.ChangeAt Go.RowKit Go.Shelf
/-- Between two rounds: all that was told was an item, and they lie in the row. -/
structure PI (w : World) (pre : List (Rec × Int)) (W : World) : Prop where
  good : ∀ x ∈ pre, x.2 = 0
  row : ∃ v, W.cell? ⟨w.heap.size + 1, 0, none⟩ = some v ∧ OwnI W (w.heap.size + 3) v (pre.map (·.1))
  bf : W.frozen? ⟨w.heap.size + 1, 0, none⟩ = false
  c0 : W.cell? ⟨w.heap.size, 0, none⟩ = some (.int .i64 0)
  c1 : W.cell? ⟨w.heap.size, 1, none⟩ = some (.slice none 0 0)
  f0 : W.frozen? ⟨w.heap.size, 0, none⟩ = false
  f1 : W.frozen? ⟨w.heap.size, 1, none⟩ = false
  below : Below w.heap.size w W
  size : w.heap.size + 3 ≤ W.heap.size
/-- A round has left: the last that was told was none. -/
def PX (w : World) (c : Code) (pre : List (Rec × Int)) (W : World) : Prop := c = .ret ∧ (∃ pr x, pre = pr ++ [x] ∧ x.2 ≠ 0 ∧ W.cell? ⟨w.heap.size, 0, none⟩ = some (.int .i64 x.2) ∧ W.cell? ⟨w.heap.size, 1, none⟩ = some (.slice none 0 0)) ∧ Below w.heap.size w W
theorem ownI_apart {W : World} {base : Nat} {v : Value} {l : List Rec} (h : OwnI W base v l) {row : Option Nat} (hr : ∀ r, row = some r → ∃ o : Obj, W.heap[r]? = some o ∧ o.isCells = false) : v.ownBlock = none ∨ v.ownBlock ≠ row := by
  obtain ⟨_, h1 | ⟨g, c, cur, rfl, _, hh, _⟩⟩ := h
  · left; rw [h1.1]; rfl
  · right
    intro e
    obtain ⟨o, ho, hc⟩ := hr g e.symm
    rw [hh] at ho
    obtain rfl := Option.some.inj ho
    cases hc
theorem pi_grown {w W W' : World} {pre : List (Rec × Int)} {row : Option Nat} (h : PI w pre W) (hg : W.grownBy W' row) (hr : ∀ r, row = some r → w.heap.size + 3 ≤ r ∧ ∃ o : Obj, W.heap[r]? = some o ∧ o.isCells = false) : PI w pre W' := by
  have hr2 : ∀ r, row = some r → ∃ o : Obj, W.heap[r]? = some o ∧ o.isCells = false := fun r e => (hr r e).2
  obtain ⟨v, hv, ho⟩ := h.row
  exact { good := h.good, row := ⟨v, cell_kept hv hg hr2, World.ownsRow.kept ho hg (ownI_apart ho hr2)⟩, bf := (frozen_kept hv hg hr2).trans h.bf,
          c0 := cell_kept h.c0 hg hr2, c1 := cell_kept h.c1 hg hr2, f0 := (frozen_kept h.c0 hg hr2).trans h.f0, f1 := (frozen_kept h.c1 hg hr2).trans h.f1,
          below := h.below.grown hg (by have := h.size; omega) (fun k e => by have := (hr k e).1; omega), size := Nat.le_trans h.size hg.size }
theorem px_grown {w W W' : World} {c : Code} {pre : List (Rec × Int)} {row : Option Nat} (h : PX w c pre W) (hg : W.grownBy W' row) (hr : ∀ r, row = some r → w.heap.size + 3 ≤ r ∧ ∃ o : Obj, W.heap[r]? = some o ∧ o.isCells = false) : PX w c pre W' := by
  have hr2 : ∀ r, row = some r → ∃ o : Obj, W.heap[r]? = some o ∧ o.isCells = false := fun r e => (hr r e).2
  obtain ⟨h1, ⟨pr, x, e, hx, c0, c1⟩, hb⟩ := h
  exact ⟨h1, ⟨pr, x, e, hx, cell_kept c0 hg hr2, cell_kept c1 hg hr2⟩, hb.grown hg hb.size (fun k e => by have := (hr k e).1; omega)⟩
theorem pi_alloc {w W : World} {pre : List (Rec × Int)} (h : PI w pre W) (o : Obj) : PI w pre (W.alloc o) := pi_grown h (World.grownBy_alloc W o none) (fun r e => by cases e)
/-- The row has grown by one item, and its box holds it. -/
theorem pi_append {w W w1 : World} {pre : List (Rec × Int)} {r : Rec} {v v' : Value} {tmp : Obj} {s : ByteArray} (h : PI w pre W) (hv : W.cell? ⟨w.heap.size + 1, 0, none⟩ = some v) (ho : OwnI W (w.heap.size + 3) v (pre.map (·.1)))
    (ho' : OwnI w1 (w.heap.size + 3) v' (pre.map (·.1) ++ [r])) (hg : (W.alloc tmp).grownBy w1 v.ownBlock) :
    w1.cell? ⟨w.heap.size + 1, 0, none⟩ = some v ∧ w1.frozen? ⟨w.heap.size + 1, 0, none⟩ = false ∧ PI w (pre ++ [(r, 0)]) (w1.setCell ⟨w.heap.size + 1, 0, none⟩ v') ∧ KeepT w.heap.size (w.heap.size + 2) s W (w1.setCell ⟨w.heap.size + 1, 0, none⟩ v') ∧ KeepsFrom (w.heap.size + 3) W (w1.setCell ⟨w.heap.size + 1, 0, none⟩ v') := by
  have hA := pi_alloc h tmp
  have hge : ∀ q, v.ownBlock = some q → w.heap.size + 3 ≤ q := fun q hq => own_geI ho q hq
  have kc : ∀ (b o : Nat) (u : Value), b < w.heap.size + 3 → (W.alloc tmp).cell? ⟨b, o, none⟩ = some u → w1.cell? ⟨b, o, none⟩ = some u := fun b o u hb hu => hg.cell hu (fun e => by have := hge b e.symm; omega)
  have kf : ∀ (b o : Nat) (u : Value), b < w.heap.size + 3 → (W.alloc tmp).cell? ⟨b, o, none⟩ = some u → w1.frozen? ⟨b, o, none⟩ = (W.alloc tmp).frozen? ⟨b, o, none⟩ := fun b o u hb hu => World.frozen?_of_block (hg.block b (block_lt_of_cell hu) (fun e => by have := hge b e.symm; omega))
  have hvA : (W.alloc tmp).cell? ⟨w.heap.size + 1, 0, none⟩ = some v := f_keepA tmp hv
  have c1b := kc (w.heap.size + 1) 0 v (by omega) hvA
  have f1b := (kf (w.heap.size + 1) 0 v (by omega) hvA).trans hA.bf
  have ne : ∀ (b o : Nat), b ≠ w.heap.size + 1 → (⟨w.heap.size + 1, 0, none⟩ : Addr) ≠ ⟨b, o, none⟩ := fun b o hb e => hb (congrArg Addr.block e).symm
  have hz : w.heap.size + 3 ≤ (W.alloc tmp).heap.size := hA.size
  have bw : Below w.heap.size w w1 := hA.below.grown hg (by omega) (fun q hq => by have := hge q hq; omega)
  have bW : Below w.heap.size W w1 := ((Below.refl _ W).alloc (by have := h.size; omega) tmp).grown hg (by omega) (fun q hq => by have := hge q hq; omega)
  refine ⟨c1b, f1b, ?_, ⟨bW.setCell (p := ⟨w.heap.size + 1, 0, none⟩) (Nat.le_succ _) _, fun hc => ?_⟩, ?_⟩
  · refine { good := fun x hx => ?_, row := ⟨v', World.cell?_setCell_same _ _ _ c1b, ?_⟩, bf := by rw [World.frozen?_setCell]; exact f1b, c0 := ?_, c1 := ?_, f0 := ?_, f1 := ?_, below := bw.setCell (p := ⟨w.heap.size + 1, 0, none⟩) (Nat.le_succ _) _, size := ?_ }
    · rcases List.mem_append.1 hx with hx | hx
      · exact h.good x hx
      · simp at hx; rw [hx]
    · rw [List.map_append]
      refine World.ownsRow.kept ho' (grownBy_setCell' w1 (w.heap.size + 1) v') ?_
      cases hb : v'.ownBlock with
      | none => exact .inl rfl
      | some q => exact .inr (fun e => by have := own_geI ho' q hb; have := Option.some.inj e; omega)
    · rw [World.cell?_setCell_other _ _ _ _ (ne _ _ (by omega))]; exact kc _ _ _ (by omega) hA.c0
    · rw [World.cell?_setCell_other _ _ _ _ (ne _ _ (by omega))]; exact kc _ _ _ (by omega) hA.c1
    · rw [World.frozen?_setCell]; exact (kf _ _ _ (by omega) hA.c0).trans hA.f0
    · rw [World.frozen?_setCell]; exact (kf _ _ _ (by omega) hA.c1).trans hA.f1
    · have := hg.size
      simp at this ⊢
      have := h.size
      omega
  · rw [World.cell?_setCell_other _ _ _ _ (ne _ _ (by omega))]
    exact kc _ _ _ (by omega) (f_keepA tmp hc)
  · refine (((KeepsOthers.alloc W tmp).trans (KeepsOthers.of_grownBy hg fun j o ej hj => ?_)).trans (KeepsOthers.setCell _ _ _)).from _
    obtain ⟨_, hn | ⟨g, c, cur, rfl, _, hh, _⟩⟩ := World.ownsRow.alloc ho tmp
    · rw [hn.1] at ej; cases ej
    · simp only [Value.ownBlock, Option.some.injEq] at ej
      subst ej
      rw [hh] at hj
      obtain rfl := Option.some.inj hj
      rfl
end Go.Proofs.YtmnblligifgcjaaGreatDoor
/-
  What ParseItems answers: the loop.
-/
namespace Go.Proofs.YtmnblligifgcjaaGreatDoor
open Go.ChangeShapes Go.WideShapes Go.ChangeAt Go.RowKit Go.Shelf
attribute [local go_sem] Oper.semAt_some
def ParseOut (s : ByteArray) (base : Nat) (e : Ending) (w : World) : Prop := ∃ v, e = .returned (.agg #[.int .i64 (parseC s), v]) ∧ OwnI w base v (parseL s)
theorem ParseOut.mk {s : ByteArray} {base : Nat} {w : World} {v : Value} {c : Int} {L : List Rec} (h : parseC s = c ∧ parseL s = L) (ho : OwnI w base v L) : ParseOut s base (.returned (.agg #[.int .i64 c, v])) w := ⟨v, by rw [h.1], by rw [h.2]; exact ho⟩
theorem own_set {W : World} {base b o : Nat} {v u : Value} {l : List Rec} (h : OwnI W base v l) (hb : b < base) : OwnI (W.setCell ⟨b, o, none⟩ u) base v l := by
  obtain ⟨h1, h2⟩ := h
  refine ⟨h1, ?_⟩
  rcases h2 with h2 | ⟨g, c, cur, e, hg, hh, hrest⟩
  · exact .inl h2
  · exact .inr ⟨g, c, cur, e, hg, by rw [Below.heap_setCell _ _ _ g (fun e => by simp only at e; omega)]; exact hh, hrest⟩
/-- Behind the loop, at the function's end: what its result's room holds. -/
theorem parse_end {w W2 : World} {D : Nat} {c : Int} {v : Value} {s : ByteArray} {L : List Rec} (hD : w.heap.size + 3 ≤ D) (hK : W2.heap[D]? = some (.deferred (some []))) (q0 : W2.cell? ⟨w.heap.size, 0, none⟩ = some (.int .i64 c)) (q1 : W2.cell? ⟨w.heap.size, 1, none⟩ = some v)
    (hb : Below w.heap.size w W2) (ho : OwnI W2 (w.heap.size + 3) v L) (hY : parseC s = c ∧ parseL s = L) :
    (W2.putObj D (.deferred none)).cell? ⟨w.heap.size, 0, none⟩ = some (.int .i64 c) ∧ (W2.putObj D (.deferred none)).cell? ⟨w.heap.size, 1, none⟩ = some v ∧ ParseOut s w.heap.size (.returned (.agg #[.int .i64 c, v])) (W2.putObj D (.deferred none)) ∧ Below w.heap.size w (W2.putObj D (.deferred none)) := by
  have hr : ∀ r, some D = some r → ∃ o : Obj, W2.heap[r]? = some o ∧ o.isCells = false := fun r e => by cases e; exact ⟨_, hK, rfl⟩
  refine ⟨cell_kept q0 (grownBy_putObj' W2 D _) hr, cell_kept q1 (grownBy_putObj' W2 D _) hr, ParseOut.mk hY ?_, hb.trans (belowK_b (w := w) (Nat.le_refl _) W2 D _ _ (by omega) hK rfl rfl)⟩
  have h1 : OwnI (W2.putObj D (.deferred none)) (w.heap.size + 3) v L := ownsRow_putObj ho _ hK rfl
  exact h1.lower (by omega)
theorem cell_one (X : World) (v : Value) (t : TypeId) : (X.alloc (.cells #[v] t)).cell? ⟨X.heap.size, 0, none⟩ = some v := by simp
theorem fr_keepA {W : World} {p : Addr} {v : Value} (o : Obj) (h : W.cell? p = some v) : (W.alloc o).frozen? p = W.frozen? p := ((Below.refl _ W).alloc (Nat.le_refl _) o).frozen (block_lt_of_cell h)
theorem cells3_new (w : World) (a b c : Value) (t : TypeId) : ∀ (j : Nat) u, ([a, b, c] : List Value)[j]? = some u → (w.alloc (.cells #[a, b, c] t)).cell? ((⟨w.heap.size, 0, none⟩ : Addr).add j) = some u := by
  intro j u hj
  match j, hj with
  | 0, hj => simp at hj; subst hj; simp [Addr.add]
  | 1, hj => simp at hj; subst hj; simp [Addr.add]
  | 2, hj => simp at hj; subst hj; simp [Addr.add]
theorem recsW_snoc (l : List Rec) (n : ByteArray) (h : Bool) (v : ByteArray) : recsW (l ++ [⟨n, h, v⟩]) = recsW l ++ [.string n, .bool h, .string v] := by simp [recsW, recW]
def actX (w : World) (s : ByteArray) (x : Rec × Int) (Bx : Nat) : Act := { tmps := #[.string s, undef, .pointer (some ⟨w.heap.size, 0, none⟩), .pointer (some ⟨w.heap.size + 1, 0, none⟩), .pointer (some ⟨Bx, 0, none⟩), .int .i64 x.2, .string s, .int .i64 s.size, .bool false, undef, .string s, .func (.func 94) #[] #[.pointer (some ⟨w.heap.size + 1 + 1, 0, none⟩)], .agg #[.string x.1.name, .bool x.1.has, .string x.1.value], .int .i64 x.2, undef, undef, undef, undef, undef, undef, undef, undef, undef, undef, undef, undef, undef, undef], defers := [] }
set_option maxRecDepth 100000 in
set_option maxHeartbeats 8000000 in
theorem implParse_loop (s : ByteArray) (w : World) (hs : s.size ≤ 1000) (hset : SetIs w) :
    Calls Tryz.prog 53 #[.string s] w fun e w' => ParseOut s w.heap.size e w' ∧ Below w.heap.size w w' := by
  have g : ¬ (1000 : Int) < s.size := by omega
  have hG : 0 < w.heap.size := by
    obtain ⟨cs, tt, fr, hg, _⟩ := hset
    exact (Array.getElem?_eq_some_iff.1 hg).1
  obtain ⟨i0, hi, hz0, hz1, hz2⟩ := info_parts infoItem
  refine (callsIn_wide (n := 3)).1 ?_
  refine callsIn_of_wp_marks Tryz.func53 rfl trivial ?_ rfl
  simp only [Tryz.ntmps53, List.size_toArray, List.length_cons, List.length_nil, Nat.reduceAdd, Nat.reduceSub, Array.replicate_succ, Array.replicate_zero, List.push_toArray, List.append_toArray, List.nil_append, List.cons_append]
  gi_wp2_with (refine ⟨trivial, ?_⟩; gi_at_call 75; refine (callsIn_wide.2 (itemsOf_any s _)).mono ?_; rintro e w' ⟨rfl, rfl⟩)
  have hb0 : Below w.heap.size w (((w.alloc (.cells #[.int .i64 0, .slice none 0 0] 61)).alloc (.cells #[.slice none 0 0] 59)).alloc (.cells #[.string s] 9)) := (((Below.refl _ w).alloc (Nat.le_refl _) _).alloc (by simp) _).alloc (by simp; omega) _
  have hsz : (((w.alloc (.cells #[.int .i64 0, .slice none 0 0] 61)).alloc (.cells #[.slice none 0 0] 59)).alloc (.cells #[.string s] 9)).heap.size = w.heap.size + 3 := by simp
  have hpi : PI w [] (((w.alloc (.cells #[.int .i64 0, .slice none 0 0] 61)).alloc (.cells #[.slice none 0 0] 59)).alloc (.cells #[.string s] 9)) := by
    have e1 := World.size_alloc w (.cells #[.int .i64 0, .slice none 0 0] 61)
    have b1 : ((w.alloc (.cells #[.int .i64 0, .slice none 0 0] 61)).alloc (.cells #[.slice none 0 0] 59)).cell? ⟨w.heap.size + 1, 0, none⟩ = some (.slice none 0 0) := by rw [← e1]; simp
    have b2 : ((w.alloc (.cells #[.int .i64 0, .slice none 0 0] 61)).alloc (.cells #[.slice none 0 0] 59)).frozen? ⟨w.heap.size + 1, 0, none⟩ = false := by rw [← e1]; simp
    have k := (Below.refl _ ((w.alloc (.cells #[.int .i64 0, .slice none 0 0] 61)).alloc (.cells #[.slice none 0 0] 59))).alloc (Nat.le_refl _) (.cells #[.string s] 9)
    have a0 : (w.alloc (.cells #[.int .i64 0, .slice none 0 0] 61)).cell? ⟨w.heap.size, 0, none⟩ = some (.int .i64 0) := by simp
    have a1 : (w.alloc (.cells #[.int .i64 0, .slice none 0 0] 61)).cell? ⟨w.heap.size, 1, none⟩ = some (.slice none 0 0) := by simp
    have z0 : (w.alloc (.cells #[.int .i64 0, .slice none 0 0] 61)).frozen? ⟨w.heap.size, 0, none⟩ = false := by simp
    have z1 : (w.alloc (.cells #[.int .i64 0, .slice none 0 0] 61)).frozen? ⟨w.heap.size, 1, none⟩ = false := by simp
    refine { good := fun x hx => by simp at hx, row := ⟨.slice none 0 0, f_keepA _ b1, OwnI.nil _ _⟩, bf := ?_, c0 := f_keepA _ (f_keepA _ a0), c1 := f_keepA _ (f_keepA _ a1), f0 := (fr_keepA _ (f_keepA _ a0)).trans ((fr_keepA _ a0).trans z0), f1 := (fr_keepA _ (f_keepA _ a1)).trans ((fr_keepA _ a1).trans z1), below := hb0, size := by rw [hsz]; omega }
    rw [k.frozen (block_lt_of_cell b1)]; exact b2
  have hct : (((w.alloc (.cells #[.int .i64 0, .slice none 0 0] 61)).alloc (.cells #[.slice none 0 0] 59)).alloc (.cells #[.string s] 9)).cell? ⟨w.heap.size + 2, 0, none⟩ = some (.string s) := by
    have e1 : ((w.alloc (.cells #[.int .i64 0, .slice none 0 0] 61)).alloc (.cells #[.slice none 0 0] 59)).heap.size = w.heap.size + 2 := by simp
    have hc := cell_one ((w.alloc (.cells #[.int .i64 0, .slice none 0 0] 61)).alloc (.cells #[.slice none 0 0] 59)) (.string s) 9
    rw [e1] at hc
    exact hc
  obtain ⟨W0, hW0⟩ : ∃ W0, (((w.alloc (.cells #[.int .i64 0, .slice none 0 0] 61)).alloc (.cells #[.slice none 0 0] 59)).alloc (.cells #[.string s] 9)) = W0 := ⟨_, rfl⟩
  rw [hW0] at hb0 hsz hpi hct ⊢
  clear hW0
  have hset0 : SetIs W0 := hset.below hb0
  refine wpIn_rangeFunc_ownH rfl (by omega) (gf := 94) (lb := #[.pointer (some ⟨w.heap.size + 2, 0, none⟩)]) rfl trivial (enters_of Tryz.func94 (by kernel_rfl) rfl)
    (tell_stops 2 (by omega) (w.heap.size + 2) w.heap.size s hs hG W0 (by omega) hct hset0) keepT_t (keepT_b (by omega)) (Below.refl _ _) (fun _ => rfl)
    (fun pre W => PI w pre W) (fun c pre W => PX w c pre W)
    (fun pre W W' row h hg hr => pi_grown h hg (fun r e => by have := hr r e; rw [hsz] at this; exact this))
    (fun c pre W W' row h hg hr => px_grown h hg (fun r e => by have := hr r e; rw [hsz] at this; exact this))
    hpi
    (fun x a' W => ∃ Bx, w.heap.size + 3 ≤ Bx ∧ (W.cell? ⟨Bx, 0, none⟩ = some (.string x.1.name) ∧ W.cell? ⟨Bx, 1, none⟩ = some (.bool x.1.has) ∧ W.cell? ⟨Bx, 2, none⟩ = some (.string x.1.value)) ∧ a' = actX w s x Bx)
    (fun x a' _ W W' row h hg hr => by
      obtain ⟨Bx, h1, ⟨h2, h3, h4⟩, h5⟩ := h
      exact ⟨Bx, h1, ⟨cell_kept h2 hg (fun r e => (hr r e).2), cell_kept h3 hg (fun r e => (hr r e).2), cell_kept h4 hg (fun r e => (hr r e).2)⟩, h5⟩)
    ?assign ?body ?done ?stop
  case assign =>
    rintro l pre x W K hI hK
    have HK := hK (actX w s x W.heap.size) (W.alloc (.cells #[.string x.1.name, .bool x.1.has, .string x.1.value] 64)) ((KeepsOthers.alloc _ _).from _) ⟨(Below.refl _ W).alloc (by have := hI.size; omega) _, fun h => f_keepA _ h⟩ (pi_alloc hI _) ⟨W.heap.size, hI.size, ⟨by simp, by simp, by simp⟩, rfl⟩
    clear hK
    unfold actX at HK
    simp only [encX]
    gi_wp2
    exact HK
  case body =>
    rintro l pre x a' W hl hrec hI ⟨Bx, hBx, ⟨x0, x1, x2⟩, rfl⟩ hlt
    unfold actX
    rw [hsz]
    obtain ⟨⟨rn, rh, rv⟩, rc⟩ := x
    simp only at x0 x1 x2 ⊢
    obtain ⟨v, hv, ho⟩ := hI.row
    have hlen : (pre.map (·.1)).length < 1002 := by rw [List.length_map]; exact hlt
    have HI : Hid (PI w pre W) := hI
    have hzW := hI.size
    by_cases c0 : rc = 0
    · subst c0
      have hgo : ∀ (v' : Value) (w1 : World), OwnI w1 (w.heap.size + 3) v' (pre.map (·.1) ++ [⟨rn, rh, rv⟩]) → (W.alloc (.cells #[.string rn, .bool rh, .string rv] 64)).grownBy w1 v.ownBlock → _ := fun v' w1 ho' hg => pi_append (s := s) HI.out hv ho ho' hg
      have HGO : Hid (∀ (v' : Value) (w1 : World), OwnI w1 (w.heap.size + 3) v' (pre.map (·.1) ++ [⟨rn, rh, rv⟩]) → (W.alloc (.cells #[.string rn, .bool rh, .string rv] 64)).grownBy w1 v.ownBlock → w1.cell? ⟨w.heap.size + 1, 0, none⟩ = some v ∧ w1.frozen? ⟨w.heap.size + 1, 0, none⟩ = false ∧ PI w (pre ++ [(⟨rn, rh, rv⟩, 0)]) (w1.setCell ⟨w.heap.size + 1, 0, none⟩ v') ∧ KeepT w.heap.size (w.heap.size + 2) s W (w1.setCell ⟨w.heap.size + 1, 0, none⟩ v') ∧ KeepsFrom (w.heap.size + 3) W (w1.setCell ⟨w.heap.size + 1, 0, none⟩ v')) := hgo
      have HO : Hid (OwnI W (w.heap.size + 3) v (pre.map (·.1))) := ho
      clear hgo ho hI
      gi_wp2_with (gi_at_builtin; refine wpListIn_append_own _ rfl _ _ 59 rfl (w.heap.size + 3) 64 i0 (.agg #[.string ⟨#[]⟩, .bool false, .string ⟨#[]⟩]) 3 40 Tryz.underlying59 hi hz0 hz1 hz2 rfl (by decide) v (pre.map (·.1)).length (recsW (pre.map (·.1))) rfl (World.ownsRow.alloc HO.out _) ⟨W.heap.size, 0, none⟩ 1 1 [.string rn, .bool rh, .string rv] rfl rfl (cells3_new _ _ _ _ _) (by simp [Value.oneCell']) (by unfold maxLen; omega) (by omega) (by simp; omega) ?_; intro v' w1 hown' hgrow _; obtain ⟨g', cap', hg'⟩ := ownsRow_succ hown'; obtain ⟨hc1, hf1, hp1, hk1, hkf1⟩ := HGO.out v' w1 (by unfold OwnI; rw [recsW_snoc, List.length_append]; exact hown') hgrow; subst hg')
      rw [List.length_map] at hkf1 hk1 hp1
      exact ⟨hkf1, hk1, hp1⟩
    · have e0 : (rc != 0) = true := by simpa using c0
      have hc0 := hI.c0
      have hc1 := hI.c1
      have hf0 := hI.f0
      have hf1 := hI.f1
      obtain ⟨q0, q1⟩ := two_set (v0 := .int .i64 rc) (v1 := .slice none 0 0) hc0 hc1
      have HX : Hid (PX w .ret (pre ++ [(⟨rn, rh, rv⟩, rc)]) ((W.setCell ⟨w.heap.size, 0, none⟩ (.int .i64 rc)).setCell ⟨w.heap.size, 1, none⟩ (.slice none 0 0))) := ⟨rfl, ⟨pre, _, rfl, c0, q0, q1⟩, (hI.below.setCell (p := ⟨w.heap.size, 0, none⟩) (Nat.le_refl _) _).setCell (p := ⟨w.heap.size, 1, none⟩) (Nat.le_refl _) _⟩
      clear ho hI q0 q1
      gi_wp2
      exact ⟨((KeepsOthers.setCell _ _ _).trans (KeepsOthers.setCell _ _ _)).from _, HX.out⟩
  case done =>
    rintro D ys W hD hS hI hK
    rw [hsz] at hD
    obtain ⟨v, hv, ho⟩ := hI.row
    have hrd : readP (pcs false [] s.data.toList) = some (ys.map (·.1)) := readP_all _ _ hS hI.good
    obtain ⟨va, vc, rfl, _⟩ := ho.at
    have hc0 := hI.c0
    have hc1 := hI.c1
    have hf0 := hI.f0
    have hf1 := hI.f1
    have hbW := hI.below
    have HO : Hid (OwnI W (w.heap.size + 3) (.slice va (ys.map (·.1)).length vc) (ys.map (·.1))) := ho
    have hnl : (ys.map (·.1)).length ≤ 1000000 := by
      rw [List.length_map, ← tells_len hS]
      have h1 := trims_len (pcs false [] s.data.toList)
      have h2 := (pcs_small s.data.toList.length s.data.toList false [] (Nat.le_refl _)).2
      rw [size_list] at h2
      omega
    by_cases hbig : 20 < (ys.map (·.1)).length
    · have HY : Hid (parseC s = 2 ∧ parseL s = []) := parse_many (by omega) hrd hbig
      have gb : (20 : Int) < ((ys.map (·.1)).length : Int) := by omega
      clear hrd hS hI ho
      generalize ys.map (·.1) = L at *
      obtain ⟨q0, q1⟩ := two_set (v0 := .int .i64 2) (v1 := .slice none 0 0) hc0 hc1
      have hK2 := ((KeepsOthers.setCell W ⟨w.heap.size, 0, none⟩ (.int .i64 2)).trans (KeepsOthers.setCell _ ⟨w.heap.size, 1, none⟩ (.slice none 0 0))).same D _ hK rfl
      obtain ⟨r0, r1, r2, r3⟩ := parse_end hD hK2 q0 q1 ((hbW.setCell (p := ⟨w.heap.size, 0, none⟩) (Nat.le_refl _) _).setCell (p := ⟨w.heap.size, 1, none⟩) (Nat.le_refl _) _) (OwnI.nil _ _) HY.out
      have RR : Hid (ParseOut s w.heap.size (.returned (.agg #[.int .i64 2, .slice none 0 0])) _ ∧ Below w.heap.size w _) := ⟨r2, r3⟩
      clear r2 r3
      gi_wp2
      refine ⟨by simp, .inl ⟨_, _, rfl, run_takeDeferred hK2, ?_⟩⟩
      exact ⟨.agg #[.int .i64 2, .slice none 0 0], by simp [results, Tryz.results53, go_sem, r0, r1], RR.out⟩
    · have HY : Hid (parseC s = 0 ∧ parseL s = ys.map (·.1)) := parse_ok (by omega) hrd hbig
      have gb : ¬ (20 : Int) < ((ys.map (·.1)).length : Int) := by omega
      clear hrd hS hI ho
      generalize ys.map (·.1) = L at *
      obtain ⟨q0, q1⟩ := two_set (v0 := .int .i64 0) (v1 := .slice va L.length vc) hc0 hc1
      have hK2 := ((KeepsOthers.setCell W ⟨w.heap.size, 0, none⟩ (.int .i64 0)).trans (KeepsOthers.setCell _ ⟨w.heap.size, 1, none⟩ (.slice va L.length vc))).same D _ hK rfl
      obtain ⟨r0, r1, r2, r3⟩ := parse_end hD hK2 q0 q1 ((hbW.setCell (p := ⟨w.heap.size, 0, none⟩) (Nat.le_refl _) _).setCell (p := ⟨w.heap.size, 1, none⟩) (Nat.le_refl _) _) (own_set (own_set HO.out (by omega)) (by omega)) HY.out
      have RR : Hid (ParseOut s w.heap.size (.returned (.agg #[.int .i64 0, .slice va L.length vc])) _ ∧ Below w.heap.size w _) := ⟨r2, r3⟩
      clear r2 r3
      gi_wp2
      refine ⟨by simp, .inl ⟨_, _, rfl, run_takeDeferred hK2, ?_⟩⟩
      exact ⟨.agg #[.int .i64 0, .slice va L.length vc], by simp [results, Tryz.results53, go_sem, r0, r1], RR.out⟩
  case stop =>
    rintro D c pre W hD ⟨d, hd, ht⟩ ⟨rfl, ⟨pr, x, rfl, hx, q0, q1⟩, hbW⟩ hK
    rw [hsz] at hD
    obtain ⟨t, htd, htx⟩ := tells_last ht
    have hx5 : x.2 = 5 ∧ readR t = none := by
      rcases htx with h | h
      · exact absurd h.1 hx
      · exact h
    have hrd : readP (pcs false [] s.data.toList) = none := readP_none _ t (hd.subset htd) hx5.2
    have HY : Hid (parseC s = 5 ∧ parseL s = []) := parse_bad (by omega) hrd
    rw [hx5.1] at q0
    obtain ⟨r0, r1, r2, r3⟩ := parse_end hD hK q0 q1 hbW (OwnI.nil _ _) HY.out
    have RR : Hid (ParseOut s w.heap.size (.returned (.agg #[.int .i64 5, .slice none 0 0])) _ ∧ Below w.heap.size w _) := ⟨r2, r3⟩
    clear r2 r3
    gi_wp2
    refine ⟨by simp, .inl ⟨_, _, rfl, run_takeDeferred hK, ?_⟩⟩
    exact ⟨.agg #[.int .i64 5, .slice none 0 0], by simp [results, Tryz.results53, go_sem, r0, r1], RR.out⟩
end Go.Proofs.YtmnblligifgcjaaGreatDoor
/-
  markText: a text of its own for each number.
-/
namespace Go.Proofs.YtmnblligifgcjaaGreatDoor
open Go.ChangeShapes Go.WideShapes Go.ChangeAt Go.RowKit
def mkD (k : Nat) (o : ByteArray) : ByteArray := if _h : k = 0 then o else mkD (k / 10) ((⟨#[UInt8.ofNat (48 + k % 10)]⟩ : ByteArray) ++ o)
termination_by k
decreasing_by omega
theorem mkD_zero (o : ByteArray) : mkD 0 o = o := by rw [mkD]; simp
theorem mkD_more {k : Nat} (h : k ≠ 0) (o : ByteArray) : mkD k o = mkD (k / 10) ((⟨#[UInt8.ofNat (48 + k % 10)]⟩ : ByteArray) ++ o) := by rw [mkD, dif_neg h]
def mkT (k : Nat) : ByteArray := (⟨#[109]⟩ : ByteArray) ++ mkD k ⟨#[]⟩
theorem one_byteM (c : Int) (x : UInt8) (hx : (x.toNat : Int) = c) (W : World) (B cap : Nat) (hc : W.cell? ⟨B, 0, none⟩ = some (.int .u8 c)) :
    (convert 22 9 (.slice (some ⟨B, 0, none⟩) 1 cap)).run Tryz.prog W = .ok (.string ⟨#[x]⟩) W := by
  have := run_convert_bytes_back (P := Tryz.prog) W 22 9 5 ⟨B, 0, none⟩ cap [x] Tryz.underlying22 Tryz.underlying5 Tryz.underlying9 (fun j hj => by
    obtain rfl : j = 0 := by simp at hj; omega
    simp [Addr.add, hc, hx])
  simpa using this
end Go.Proofs.YtmnblligifgcjaaGreatDoor
/-
  markItemS and heldItemS: marks laid into a list of items, and found again.
-/
namespace Go.Proofs.YtmnblligifgcjaaGreatDoor
open Go.ChangeShapes Go.WideShapes Go.ChangeAt Go.RowKit Go.Sort
def mkR (k : Nat) (j : Nat) : Rec := ⟨mkT (k + 3 * j), decide ((k + 3 * j + 1) % 3 = 0), mkT (k + 3 * j + 2)⟩
def mkL (k n : Nat) : List Rec := (List.range n).map (mkR k)
theorem mkL_len (k n : Nat) : (mkL k n).length = n := by simp [mkL]
theorem mkL_get {k n i : Nat} (h : i < n) : (mkL k n)[i]? = some (mkR k i) := by simp [mkL, h]
theorem cell_set_same {w : World} {g o : Nat} {u v : Value} (h : w.cell? ⟨g, o, none⟩ = some u) : (w.setCell ⟨g, o, none⟩ v).cell? ⟨g, o, none⟩ = some v := World.cell?_setCell_same _ _ _ h
theorem cell_set_off {w : World} {g o o' : Nat} {v : Value} (h : o ≠ o') : (w.setCell ⟨g, o', none⟩ v).cell? ⟨g, o, none⟩ = w.cell? ⟨g, o, none⟩ :=
  World.cell?_setCell_other _ _ _ _ (by intro e; have := congrArg Addr.off e; simp at this; omega)
/-- One field of one item written. -/
theorem put_name {w : World} {g off i : Nat} {L : List Rec} {r : Rec} (h : ItemsAt w g off L) (hr : L[i]? = some r) (n : ByteArray) :
    ItemsAt (w.setCell ⟨g, off + i * 3, none⟩ (.string n)) g off (L.set i { r with name := n }) := by
  intro j q hq
  by_cases e : j = i
  · subst e
    have hl := (List.getElem?_eq_some_iff.1 hr).1
    rw [List.getElem?_set_self hl] at hq
    obtain rfl := Option.some.inj hq
    obtain ⟨a, b, c⟩ := h j r hr
    exact ⟨cell_set_same a, by rw [cell_set_off (by omega)]; exact b, by rw [cell_set_off (by omega)]; exact c⟩
  · rw [List.getElem?_set_ne (fun k => e k.symm)] at hq
    obtain ⟨a, b, c⟩ := h j q hq
    exact ⟨by rw [cell_set_off (by omega)]; exact a, by rw [cell_set_off (by omega)]; exact b, by rw [cell_set_off (by omega)]; exact c⟩
theorem put_has {w : World} {g off i : Nat} {L : List Rec} {r : Rec} (h : ItemsAt w g off L) (hr : L[i]? = some r) (n : Bool) :
    ItemsAt (w.setCell ⟨g, off + i * 3 + 1, none⟩ (.bool n)) g off (L.set i { r with has := n }) := by
  intro j q hq
  by_cases e : j = i
  · subst e
    have hl := (List.getElem?_eq_some_iff.1 hr).1
    rw [List.getElem?_set_self hl] at hq
    obtain rfl := Option.some.inj hq
    obtain ⟨a, b, c⟩ := h j r hr
    exact ⟨by rw [cell_set_off (by omega)]; exact a, cell_set_same b, by rw [cell_set_off (by omega)]; exact c⟩
  · rw [List.getElem?_set_ne (fun k => e k.symm)] at hq
    obtain ⟨a, b, c⟩ := h j q hq
    exact ⟨by rw [cell_set_off (by omega)]; exact a, by rw [cell_set_off (by omega)]; exact b, by rw [cell_set_off (by omega)]; exact c⟩
theorem put_value {w : World} {g off i : Nat} {L : List Rec} {r : Rec} (h : ItemsAt w g off L) (hr : L[i]? = some r) (n : ByteArray) :
    ItemsAt (w.setCell ⟨g, off + i * 3 + 2, none⟩ (.string n)) g off (L.set i { r with value := n }) := by
  intro j q hq
  by_cases e : j = i
  · subst e
    have hl := (List.getElem?_eq_some_iff.1 hr).1
    rw [List.getElem?_set_self hl] at hq
    obtain rfl := Option.some.inj hq
    obtain ⟨a, b, c⟩ := h j r hr
    exact ⟨by rw [cell_set_off (by omega)]; exact a, by rw [cell_set_off (by omega)]; exact b, cell_set_same c⟩
  · rw [List.getElem?_set_ne (fun k => e k.symm)] at hq
    obtain ⟨a, b, c⟩ := h j q hq
    exact ⟨by rw [cell_set_off (by omega)]; exact a, by rw [cell_set_off (by omega)]; exact b, by rw [cell_set_off (by omega)]; exact c⟩
/-- The state of the marking loop: j items are marked. -/
structure Marked (w : World) (g off : Nat) (k n j : Nat) (L : List Rec) (W : World) : Prop where
  len : L.length = n
  done : ∀ i, i < j → L[i]? = some (mkR k i)
  items : ItemsAt W g off L
  thaw : ∀ o, W.frozen? ⟨g, o, none⟩ = false
  apart : Apart g w W
  low : Below g w W
  lt : g < W.heap.size
theorem Marked.below {w : World} {g off k n j : Nat} {L : List Rec} {W W' : World} (h : Marked w g off k n j L W) (hb : Below W.heap.size W W') : Marked w g off k n j L W' :=
  ⟨h.len, h.done, h.items.keep hb, fun o => by rw [hb.frozen (p := ⟨g, o, none⟩) h.lt, h.thaw], h.apart.trans (.below hb), h.low.trans (hb.mono (Nat.le_of_lt h.lt)), Nat.lt_of_lt_of_le h.lt hb.size⟩
theorem Marked.set {w : World} {g off k n j o : Nat} {L L' : List Rec} {W : World} {v : Value} (h : Marked w g off k n j L W) (hl : L'.length = L.length) (hd : ∀ i, i < j → L'[i]? = L[i]?) (hi : ItemsAt (W.setCell ⟨g, o, none⟩ v) g off L') : Marked w g off k n j L' (W.setCell ⟨g, o, none⟩ v) :=
  ⟨hl.trans h.len, fun i hi => (hd i hi).trans (h.done i hi), hi, fun o => by rw [World.frozen?_setCell, h.thaw], h.apart.trans (.set _ _ _ _), h.low.setCell (Nat.le_refl _) _, by simpa using h.lt⟩
end Go.Proofs.YtmnblligifgcjaaGreatDoor
/-
  markItemS and heldItemS.
-/
namespace Go.Proofs.YtmnblligifgcjaaGreatDoor
open Go.ChangeShapes Go.WideShapes Go.ChangeAt Go.RowKit Go.Sort
end Go.Proofs.YtmnblligifgcjaaGreatDoor
/-
  The laws' comparing of two lists of items that are alike.
-/
namespace Go.Proofs.YtmnblligifgcjaaGreatDoor
open Go.ChangeShapes Go.WideShapes Go.ChangeAt Go.RowKit Go.Sort
end Go.Proofs.YtmnblligifgcjaaGreatDoor
/-
  A list of items as a value: compared, marked, held.
-/
namespace Go.Proofs.YtmnblligifgcjaaGreatDoor
open Go.ChangeShapes Go.WideShapes Go.ChangeAt Go.RowKit Go.Sort
def LV (w : World) (v : Value) (l : List Rec) : Prop :=
  (v = .slice none 0 0 ∧ l = []) ∨ ∃ g cap, v = .slice (some ⟨g, 0, none⟩) l.length cap ∧ g < w.heap.size ∧ ItemsAt w g 0 l ∧ ∀ o, w.frozen? ⟨g, o, none⟩ = false
theorem OwnI.lv {w : World} {base : Nat} {v : Value} {l : List Rec} (h : OwnI w base v l) : LV w v l ∧ ∀ b, v.ownBlock = some b → base ≤ b := by
  have h0 := h
  obtain ⟨_, h1 | ⟨g, c, cur, rfl, hg, hh, _⟩⟩ := h
  · have e : l = [] := List.eq_nil_of_length_eq_zero h1.2
    exact ⟨.inl ⟨h1.1, e⟩, fun b hb => by rw [h1.1] at hb; cases hb⟩
  · refine ⟨.inr ⟨g, c, rfl, (Array.getElem?_eq_some_iff.1 hh).1, ?_, fun o => ?_⟩, fun b hb => ?_⟩
    · obtain ⟨a, c', e, hi⟩ := h0.at
      rcases hi with rfl | ⟨b, off, rfl, hat⟩
      · intro i r hr; simp at hr
      · simp only [Value.slice.injEq, Option.some.injEq] at e
        obtain ⟨e, _⟩ := e
        have e1 := congrArg Addr.block e
        have e2 := congrArg Addr.off e
        simp only at e1 e2
        rw [e1, e2]
        exact hat
    · simp [World.frozen?, hh]
    · simp only [Value.ownBlock, Option.some.injEq] at hb; omega
theorem LV.below {w w' : World} {v : Value} {l : List Rec} (h : LV w v l) (hb : Below w.heap.size w w') : LV w' v l := by
  rcases h with h | ⟨g, c, e, hg, hi, hf⟩
  · exact .inl h
  · exact .inr ⟨g, c, e, Nat.lt_of_lt_of_le hg hb.size, hi.keep hb, fun o => by rw [hb.frozen (p := ⟨g, o, none⟩) hg, hf]⟩
/-- All that was there, but for the memory of v, is as it was. -/
structure AV (v : Value) (w w' : World) : Prop where
  size : w.heap.size ≤ w'.heap.size
  cell : ∀ b o, b < w.heap.size → v.ownBlock ≠ some b → w'.cell? ⟨b, o, none⟩ = w.cell? ⟨b, o, none⟩
  frozen : ∀ b o, b < w.heap.size → v.ownBlock ≠ some b → w'.frozen? ⟨b, o, none⟩ = w.frozen? ⟨b, o, none⟩
theorem AV.below {v : Value} {w w' : World} (h : Below w.heap.size w w') : AV v w w' :=
  ⟨h.size, fun b o hb _ => h.cell (p := ⟨b, o, none⟩) hb, fun b o hb _ => h.frozen (p := ⟨b, o, none⟩) hb⟩
theorem LV.av {w w' : World} {v v1 : Value} {l : List Rec} (h : LV w v1 l) (k : AV v w w') (hne : ∀ b, v1.ownBlock = some b → v.ownBlock ≠ some b) : LV w' v1 l := by
  rcases h with h | ⟨g, c, rfl, hg, hi, hf⟩
  · exact .inl h
  · have hn := hne g rfl
    exact .inr ⟨g, c, rfl, Nat.lt_of_lt_of_le hg k.size, fun i r hr => by rw [k.cell g _ hg hn, k.cell g _ hg hn, k.cell g _ hg hn]; exact hi i r hr, fun o => by rw [k.frozen g o hg hn, hf]⟩
end Go.Proofs.YtmnblligifgcjaaGreatDoor
/-
  ParseItems on both sides, for every text.
-/
namespace Go.Proofs.YtmnblligifgcjaaGreatDoor
open Go.ChangeShapes Go.WideShapes Go.ChangeAt Go.RowKit Go.Sort
theorem parseL_len (s : ByteArray) : (parseL s).length ≤ 20 := by
  unfold parseL
  split
  · simp
  · split
    · simp
    · split
      · simp
      · omega
set_option maxHeartbeats 1000000 in
theorem specParse_fn (s : ByteArray) (w : World) :
    Calls Tryz.prog 79 #[.string s] w fun e w' => ParseOut s w.heap.size e w' ∧ Below w.heap.size w w' := by
  by_cases hs : 1000 < s.size
  · have hh : (1000 : Int) < s.size := by omega
    have HL : Hid (parseC s = 2 ∧ parseL s = []) := parse_long hs
    go_enter Tryz.func79, Tryz.ntmps79
    go_wp2
    exact bodyPost_ret (v := .agg #[.int .i64 2, .slice none 0 0]) (by simp [results, Tryz.results79, go_sem]) rfl ⟨ParseOut.mk HL.out (OwnI.nil _ _), (Below.refl _ _).alloc (Nat.le_refl _) _⟩
  have hh : ¬ (1000 : Int) < s.size := by omega
  have HP : Hid (∀ W, Calls Tryz.prog 99 #[.string s] W fun e w' => ParseRes s W.heap.size e w' ∧ Below W.heap.size W w') := fun W => l2Parse_any s W hs
  clear hs
  go_enter Tryz.func79, Tryz.ntmps79
  go_wp2_with fail
  refine (HP.out _).mono ?_
  rintro e w1 ⟨⟨v, rfl, ho⟩, hb⟩
  have p0 : w1.cell? ⟨w.heap.size, 0, none⟩ = some (.int .i64 0) := by rw [hb.cell (p := ⟨w.heap.size, 0, none⟩) (by simp)]; simp
  have p1 : w1.cell? ⟨w.heap.size, 1, none⟩ = some (.slice none 0 0) := by rw [hb.cell (p := ⟨w.heap.size, 1, none⟩) (by simp)]; simp
  have f0 : w1.frozen? ⟨w.heap.size, 0, none⟩ = false := by rw [hb.frozen (p := ⟨w.heap.size, 0, none⟩) (by simp)]; simp
  have f1 : w1.frozen? ⟨w.heap.size, 1, none⟩ = false := by rw [hb.frozen (p := ⟨w.heap.size, 1, none⟩) (by simp)]; simp
  have KB : Hid (Below w.heap.size w w1) := ((Below.refl _ _).alloc (Nat.le_refl _) _).trans (hb.mono (by simp))
  have ho2 : OwnI w1 (w.heap.size + 1) v (parseL s) := by simpa using ho
  obtain ⟨va, vc, hv, _⟩ := ho2.at
  generalize hn : (parseL s).length = vn at hv
  subst hv
  have KO : Hid (OwnI w1 (w.heap.size + 1) (.slice va vn vc) (parseL s)) := ho2
  clear hb ho HP ho2 hn
  obtain ⟨c, hc⟩ : ∃ c, Hid (parseC s = c) := ⟨_, rfl⟩
  rw [hc.out]
  obtain ⟨q0, q1⟩ := two_set (v0 := .int .i64 c) (v1 := .slice va vn vc) p0 p1
  go_wp2_with fail
  refine bodyPost_ret (v := .agg #[.int .i64 c, .slice va vn vc]) (by simp [results, Tryz.results79, go_sem, q0, q1]) rfl ⟨ParseOut.mk ⟨hc.out, rfl⟩ ?_, (KB.out.setCell (Nat.le_refl _) _).setCell (Nat.le_refl _) _⟩
  exact ((own_set (own_set KO.out (Nat.lt_succ_self _)) (Nat.lt_succ_self _))).lower (Nat.le_succ _)
set_option maxHeartbeats 1000000 in
theorem implParse_fn (s : ByteArray) (w : World) (hset : SetIs w) :
    Calls Tryz.prog 53 #[.string s] w fun e w' => ParseOut s w.heap.size e w' ∧ Below w.heap.size w w' := by
  by_cases hs : 1000 < s.size
  · have hh : (1000 : Int) < s.size := by omega
    have HL : Hid (parseC s = 2 ∧ parseL s = []) := parse_long hs
    clear hset
    go_enter Tryz.func53, Tryz.ntmps53
    go_wp2
    exact bodyPost_ret (v := .agg #[.int .i64 2, .slice none 0 0]) (by simp [results, Tryz.results53, go_sem]) rfl ⟨ParseOut.mk HL.out (OwnI.nil _ _), (Below.refl _ _).alloc (Nat.le_refl _) _⟩
  · exact implParse_loop s w (by omega) hset
end Go.Proofs.YtmnblligifgcjaaGreatDoor
/-
  The items of all values of a name, on both sides.
-/
namespace Go.Proofs.YtmnblligifgcjaaGreatDoor
open Go.ChangeShapes Go.WideShapes Go.ChangeAt Go.RowKit Go.Sort
theorem readR_word {s : ByteArray} {r : Rec} (h : readR s = some r) : wordS r.name = true := by
  unfold readR at h
  split at h
  · cases h
  · rename_i hw
    have hw' : wordS (s.extract 0 (eqAt s.data.toList)) = true := by simpa using hw
    split at h
    · rename_i he
      obtain rfl := Option.some.inj h
      rw [he] at hw'
      have e : s.extract 0 s.size = s := by apply ByteArray.ext; simp
      rw [e] at hw'
      exact hw'
    · split at h
      · obtain rfl := Option.some.inj h
        exact hw'
      · split at h
        · obtain rfl := Option.some.inj h
          exact hw'
        · cases h
theorem readP_word : ∀ (ps : List (List UInt8)) (L : List Rec), readP ps = some L → ∀ r ∈ L, wordS r.name = true
  | [], L, h, r, hr => by
    simp [readP] at h
    subst h
    simp at hr
  | p :: ps, L, h, r, hr => by
    rw [readP] at h
    split at h
    · exact readP_word ps L h r hr
    · split at h
      · cases h
      · rename_i q hq
        obtain ⟨M, hM, rfl⟩ := Option.map_eq_some_iff.1 h
        rcases List.mem_cons.1 hr with rfl | hr
        · exact readR_word hq
        · exact readP_word ps M hM r hr
theorem parse_word {s : ByteArray} {r : Rec} (h : r ∈ parseL s) : wordS r.name = true := by
  unfold parseL at h
  split at h
  · simp at h
  · split at h
    · simp at h
    · rename_i L hL
      split at h
      · simp at h
      · exact readP_word _ L hL r h
theorem parse_empty : parseC ⟨#[]⟩ = 0 ∧ parseL ⟨#[]⟩ = [] := by decide +kernel
/-- All values of a name, one text. -/
def underT (x : ByteArray) (l : List Hdr) : ByteArray := ⟨(hjoinL (valsOf x l)).toArray⟩
theorem under_none {x : ByteArray} {l : List Hdr} (h : valsOf x l = []) : underT x l = ⟨#[]⟩ := by
  unfold underT
  rw [h]
  rfl
theorem under_size {x : ByteArray} {l : List Hdr} (h0 : headsC l = 0) : (underT x l).size ≤ 4040 := by
  obtain ⟨h20, hz⟩ := first_sizes h0
  have h1 := hjoinL_len _ (valsOf_mem (x := x) hz)
  have h2 := valsOf_len x l
  have h3 : (valsOf x l).length * 202 ≤ 20 * 202 := Nat.mul_le_mul_right _ (by omega)
  show (hjoinL (valsOf x l)).toArray.size ≤ _
  rw [List.size_toArray]
  omega
theorem under_join {l : List Hdr} {name : ByteArray} (h0 : headsC l = 0) (hw : wordS name = true) : joinT l name = underT (lowS name) l := by
  have ha : askC l name = 0 := by rw [askC, if_pos h0, if_pos hw]
  by_cases hv : valsOf (lowS name) l = []
  · rw [(join_none ha hv).2, under_none hv]
  · rw [(join_some ha hv).2]; rfl
def ItemsOut (t : ByteArray) (base : Nat) (e : Ending) (w : World) : Prop := ∃ a n k, e = .returned (.tuple #[.slice a n k, .bool (decide (parseC t = 0))]) ∧ OwnI w base (.slice a n k) (parseL t)
theorem ItemsOut.mk {t : ByteArray} {base : Nat} {w : World} {a : Option Addr} {n k : Nat} {b : Bool} (h : decide (parseC t = 0) = b) (ho : OwnI w base (.slice a n k) (parseL t)) : ItemsOut t base (.returned (.tuple #[.slice a n k, .bool b])) w := ⟨a, n, k, by rw [h], ho⟩
set_option maxRecDepth 100000 in
set_option maxHeartbeats 4000000 in
theorem l6Items_any (w : World) (a : Option Addr) (cap : Nat) (l : List Hdr) (name : ByteArray) (h0 : headsC l = 0) (hnm : name.size ≤ 64) (hi : HdsIn w a l) :
    Calls Tryz.prog 56 #[.slice a l.length cap, .string name] w fun e w' => ItemsOut (underT (lowS name) l) w.heap.size e w' ∧ Below w.heap.size w w' := by
  obtain ⟨h20, hz⟩ := first_sizes h0
  have H1 := l4Join_any w a cap l name h20 hz hnm hi
  clear hi hz h0
  generalize l.length = n at *
  by_cases hv : valsOf (lowS name) l = []
  · have HU : Hid (underT (lowS name) l = ⟨#[]⟩) := under_none hv
    rw [hv, show anyV [] = false from rfl] at H1
    generalize (⟨(hjoinL []).toArray⟩ : ByteArray) = jt at *
    clear hv
    go_enter Tryz.func56, Tryz.ntmps56
    go_wp2_with fail
    refine H1.mono ?_
    rintro e w1 ⟨rfl, hb1⟩
    have HB : Hid (Below w.heap.size w w1) := hb1
    clear hb1
    go_wp2_with fail
    go_ret2
    exact ⟨ItemsOut.mk (by rw [HU.out, parse_empty.1]; rfl) (by rw [HU.out, parse_empty.2]; exact OwnI.nil _ _), HB.out⟩
  · have hy : anyV (valsOf (lowS name) l) = true := by simpa [anyV] using hv
    rw [hy, show (⟨(hjoinL (valsOf (lowS name) l)).toArray⟩ : ByteArray) = underT (lowS name) l from rfl] at H1
    clear hy hv
    have HP : Hid (∀ W, Calls Tryz.prog 79 #[.string (underT (lowS name) l)] W fun e w' => ParseOut (underT (lowS name) l) W.heap.size e w' ∧ Below W.heap.size W w') := fun W => specParse_fn _ W
    obtain ⟨t, ht⟩ : ∃ t, Hid (underT (lowS name) l = t) := ⟨_, rfl⟩
    rw [ht.out] at H1 HP ⊢
    clear ht
    go_enter Tryz.func56, Tryz.ntmps56
    go_wp2_with fail
    refine H1.mono ?_
    rintro e w1 ⟨rfl, hb1⟩
    have HB : Hid (Below w.heap.size w w1) := hb1
    clear hb1 H1
    go_wp2_with fail
    refine (HP.out _).mono ?_
    rintro e w2 ⟨⟨v, rfl, ho⟩, hb2⟩
    obtain ⟨va, vc, hv, _⟩ := ho.at
    generalize (parseL t).length = vn at hv
    subst hv
    obtain ⟨c, hcc⟩ : ∃ c, Hid (parseC t = c) := ⟨_, rfl⟩
    rw [hcc.out]
    have b2 := HB.out.trans (hb2.mono HB.out.size)
    have al : Below w2.heap.size w2 (w2.alloc (.cells #[.int .i64 c, .slice va vn vc] 61)) := (Below.refl _ _).alloc (Nat.le_refl _) _
    obtain ⟨W, hW⟩ : ∃ X, Hid (X = w2.alloc (.cells #[.int .i64 c, .slice va vn vc] 61)) := ⟨_, rfl⟩
    have K : Hid (Below w.heap.size w W ∧ OwnI W w.heap.size (.slice va vn vc) (parseL t) ∧ W.cell? ⟨w2.heap.size, 0, none⟩ = some (.int .i64 c) ∧ W.cell? ⟨w2.heap.size, 1, none⟩ = some (.slice va vn vc)) := by
      rw [hW.out]
      exact ⟨b2.trans (al.mono b2.size), (ho.below al).lower HB.out.size, by simp, by simp⟩
    clear hb2 ho HB b2 al HP
    go_upto_region 5 with fail
    rw [← hW.out]
    clear hW
    have q0 := K.out.2.2.1
    have q1 := K.out.2.2.2
    have HD : Hid (decide (parseC t = 0) = (c == 0)) := by
      show _ = _
      rw [hcc.out]
      rfl
    generalize w2.heap.size = B2 at *
    go_quiet (fail)
    go_wp2_with fail
    go_ret2
    refine ⟨ItemsOut.mk HD.out ?_, ?_⟩
    · exact K.out.2.1.below (below_drewN (Below.refl _ _) _)
    · exact below_drewN K.out.1 _
theorem tfieldU (c : Int) (t : ByteArray) (w : World) : (Instr.field 29 (.agg #[.int .i64 c, .string t]) 1).run Tryz.prog w = .ok (.string t) w := by kernel_rfl
set_option maxRecDepth 100000 in
set_option maxHeartbeats 4000000 in
theorem itemsUnder_any (w : World) (a : Option Addr) (cap : Nat) (l : List Hdr) (name : ByteArray) (h0 : headsC l = 0) (hw : wordS name = true) (hcap : l.length ≤ cap) (hset : SetIs w) (hi : HdsIn w a l) :
    Calls Tryz.prog 27 #[.slice a l.length cap, .string name] w fun e w' => ParseOut (underT (lowS name) l) w.heap.size e w' ∧ Below w.heap.size w w' := by
  have h20 := (first_sizes h0).1
  have HJ : Hid (∀ W, Below w.heap.size w W → Calls Tryz.prog 25 #[.slice a l.length cap, .string name] W fun e w' => e = .returned (.agg #[.int .i64 (joinC l name), .string (joinT l name)]) ∧ Below W.heap.size W w') := fun W hb => implJoin_any W a cap l name (by omega) hcap (hset.below hb) (hi.keep hb)
  have HP : Hid (∀ W, Below w.heap.size w W → Calls Tryz.prog 53 #[.string (underT (lowS name) l)] W fun e w' => ParseOut (underT (lowS name) l) W.heap.size e w' ∧ Below W.heap.size W w') := fun W hb => implParse_fn _ W (hset.below hb)
  rw [under_join h0 hw] at HJ
  obtain ⟨t, ht⟩ : ∃ t, Hid (underT (lowS name) l = t) := ⟨_, rfl⟩
  rw [ht.out] at HJ HP ⊢
  clear ht hi hset h0 hw hcap h20
  generalize l.length = n at *
  generalize joinC l name = jc at *
  go_enter Tryz.func27, Tryz.ntmps27
  go_wp2_with fail
  refine (HJ.out _ ((Below.refl _ _).alloc (Nat.le_refl _) _)).mono ?_
  rintro e w1 ⟨rfl, hb1⟩
  rw [World.size_alloc] at hb1
  have HB1 : Hid (Below (w.heap.size + 1) (w.alloc (.cells #[.int .i64 0, .slice none 0 0] 61)) w1) := hb1
  have hz1 : w.heap.size + 1 ≤ w1.heap.size := by have := hb1.size; rwa [World.size_alloc] at this
  have HBw : Hid (Below w.heap.size w w1) := ((Below.refl _ _).alloc (Nat.le_refl _) _).trans (hb1.mono (Nat.le_succ _))
  clear hb1 HJ
  have hf := tfieldU jc t
  go_wp2_with fail
  refine (HP.out _ HBw.out).mono ?_
  rintro e w2 ⟨⟨v, rfl, ho⟩, hb2⟩
  obtain ⟨va, vc, hv, _⟩ := ho.at
  generalize (parseL t).length = vn at hv
  subst hv
  obtain ⟨c, hcc⟩ : ∃ c, Hid (parseC t = c) := ⟨_, rfl⟩
  rw [hcc.out]
  have hb := HB1.out.trans (hb2.mono hz1)
  have p0 : w2.cell? ⟨w.heap.size, 0, none⟩ = some (.int .i64 0) := by rw [hb.cell (p := ⟨w.heap.size, 0, none⟩) (by simp)]; simp
  have p1 : w2.cell? ⟨w.heap.size, 1, none⟩ = some (.slice none 0 0) := by rw [hb.cell (p := ⟨w.heap.size, 1, none⟩) (by simp)]; simp
  have f0 : w2.frozen? ⟨w.heap.size, 0, none⟩ = false := by rw [hb.frozen (p := ⟨w.heap.size, 0, none⟩) (by simp)]; simp
  have f1 : w2.frozen? ⟨w.heap.size, 1, none⟩ = false := by rw [hb.frozen (p := ⟨w.heap.size, 1, none⟩) (by simp)]; simp
  have KB : Hid (Below w.heap.size w w2) := HBw.out.trans (hb2.mono HBw.out.size)
  have KO : Hid (OwnI w2 (w.heap.size + 1) (.slice va vn vc) (parseL t)) := ho.lower hz1
  clear hb hb2 ho HB1 HBw HP hf
  obtain ⟨q0, q1⟩ := two_set (v0 := .int .i64 c) (v1 := .slice va vn vc) p0 p1
  go_wp2_with fail
  refine bodyPost_ret (v := .agg #[.int .i64 c, .slice va vn vc]) (by simp [results, Tryz.results27, go_sem, q0, q1]) rfl ⟨ParseOut.mk ⟨hcc.out, rfl⟩ ?_, (KB.out.setCell (Nat.le_refl _) _).setCell (Nat.le_refl _) _⟩
  exact ((own_set (own_set KO.out (Nat.lt_succ_self _)) (Nat.lt_succ_self _))).lower (Nat.le_succ _)
end Go.Proofs.YtmnblligifgcjaaGreatDoor
/-
  Names that tell variants, on the model's side.
-/
namespace Go.Proofs.YtmnblligifgcjaaGreatDoor
open Go.ChangeShapes Go.WideShapes Go.ChangeAt Go.RowKit
theorem nret_int {a b : Int} (h : a = b) : Ending.returned (.int .i64 a) = Ending.returned (.int .i64 b) := by rw [h]
def wordsA (ns : List ByteArray) : Bool := ns.all wordS
def namesC (ns : List ByteArray) : Int := if 4 < ns.length then 2 else if wordsA ns = true then 0 else 5
theorem namesC_many {ns : List ByteArray} (h : 4 < ns.length) : namesC ns = 2 := by rw [namesC, if_pos h]
theorem namesC_ok {ns : List ByteArray} (h : ¬ 4 < ns.length) (h2 : wordsA ns = true) : namesC ns = 0 := by rw [namesC, if_neg h, if_pos h2]
theorem namesC_bad {ns : List ByteArray} (h : ¬ 4 < ns.length) (h2 : wordsA ns = false) : namesC ns = 5 := by rw [namesC, if_neg h, if_neg (by rw [h2]; decide)]
theorem wordsA_not {ns : List ByteArray} {k : Nat} {x : ByteArray} (h : ns[k]? = some x) (hw : wordS x = false) : wordsA ns = false := by
  have hm := List.mem_of_getElem? h
  cases hc : wordsA ns
  · rfl
  · have := List.all_eq_true.1 hc x hm
    rw [hw] at this; cases this
theorem wordsA_of {ns : List ByteArray} (h : ∀ (k : Nat) x, ns[k]? = some x → wordS x = true) : wordsA ns = true := by
  refine List.all_eq_true.2 fun x hx => ?_
  obtain ⟨i, hi⟩ := List.getElem?_of_mem hx
  exact h i x hi
theorem wordsA_mem {ns : List ByteArray} (h : wordsA ns = true) {k : Nat} {x : ByteArray} (hx : ns[k]? = some x) : wordS x = true := List.all_eq_true.1 h x (List.mem_of_getElem? hx)
theorem names_zero {ns : List ByteArray} (h : namesC ns = 0) : ns.length ≤ 4 ∧ wordsA ns = true := by
  by_cases c : 4 < ns.length
  · rw [namesC_many c] at h; omega
  · cases hw : wordsA ns
    · rw [namesC_bad c hw] at h; omega
    · exact ⟨by omega, rfl⟩
set_option maxRecDepth 100000 in
set_option maxHeartbeats 4000000 in
theorem l5Names_any (w : World) (a : Option Addr) (cap : Nat) (ns : List ByteArray) (hn : ns.length ≤ 1048576) (hi : TIn w a ns) :
    Calls Tryz.prog 30 #[.slice a ns.length cap] w fun e w' => e = .returned (.int .i64 (namesC ns)) ∧ Below w.heap.size w w' := by
  have HI : Hid (TIn w a ns) := hi
  clear hi
  by_cases h4 : 4 < ns.length
  · have HE : Hid (namesC ns = 2) := namesC_many h4
    generalize ns.length = n at *
    have g : (4 : Int) < n := by omega
    go_enter Tryz.func30, Tryz.ntmps30
    go_wp2_with fail
    go_ret
    exact ⟨nret_int HE.out.symm, Below.refl _ _⟩
  have HBAD : Hid (wordsA ns = false → namesC ns = 5) := namesC_bad h4
  have HOK : Hid (wordsA ns = true → namesC ns = 0) := namesC_ok h4
  generalize hnn : ns.length = n at *
  have HN : Hid (ns.length = n) := hnn
  clear hnn
  have g : ¬ (4 : Int) < n := by omega
  go_enter Tryz.func30, Tryz.ntmps30
  go_wp2_with fail
  go_loopw [3] (fun i wr => ∃ k : Nat, k ≤ n ∧ i = .int .i64 k ∧ (∀ (j : Nat) x, j < k → ns[j]? = some x → wordS x = true) ∧ Below w.heap.size w wr) (fun i _ => n - (intOf i).toNat)
  case atStart => exact ⟨0, Nat.zero_le _, rfl, fun j x hj _ => absurd hj (by omega), Below.refl _ _⟩
  case round =>
    obtain ⟨k, hk, rfl, hw, hb⟩ := hrel
    have HW : Hid (∀ (j : Nat) x, j < k → ns[j]? = some x → wordS x = true) := hw
    clear hw
    by_cases hlt : k < n
    · obtain ⟨x, hx⟩ : ∃ r, ns[k]? = some r := ⟨ns[k]'(by have := HN.out; omega), List.getElem?_eq_getElem _⟩
      rcases HI.out with h | ⟨b, off, rfl, hat⟩
      · subst h; simp at hx
      have p1 := (hat.keep hb) k x hx
      have HX : Hid (ns[k]? = some x) := hx
      have C := specIsWord_any x wr
      have gk : (k : Int) < n := by omega
      clear hx hat
      by_cases hw : wordS x = true
      · rw [hw] at C
        have HWX : Hid (wordS x = true) := hw
        clear hw
        go_wp2_with fail
        refine C.mono ?_
        rintro e w2 ⟨rfl, rfl⟩
        go_wp2_with fail
        go_roundw
        case rel =>
          refine ⟨k + 1, by omega, by go_num, fun j y hj hy => ?_, hb⟩
          by_cases e : j = k
          · subst e
            rw [HX.out] at hy
            obtain rfl := Option.some.inj hy
            exact HWX.out
          · exact HW.out j y (by omega) hy
        case measure => simp [intOf]; omega
      · have hwf : wordS x = false := by simpa using hw
        rw [hwf] at C
        have HE : Hid (namesC ns = 5) := HBAD.out (wordsA_not HX.out hwf)
        clear hw hwf
        go_wp2_with fail
        refine C.mono ?_
        rintro e w2 ⟨rfl, rfl⟩
        go_wp2_with fail
        go_ret
        exact ⟨nret_int HE.out.symm, hb⟩
    · have HE : Hid (namesC ns = 0) := HOK.out (wordsA_of fun j x hx => HW.out j x (by have := (List.getElem?_eq_some_iff.1 hx).1; have := HN.out; omega) hx)
      go_wp2_with fail
      go_ret
      exact ⟨nret_int HE.out.symm, hb⟩
end Go.Proofs.YtmnblligifgcjaaGreatDoor
/-
  What varies, on both sides.
-/
namespace Go.Proofs.YtmnblligifgcjaaGreatDoor
open Go.ChangeShapes Go.WideShapes Go.ChangeAt Go.RowKit Go.Sort
def starT : ByteArray := ⟨#[42]⟩
def alikeN (ns : List ByteArray) (r : ByteArray) : Bool := ns.any fun x => decide (lowS r = lowS x) && !decide (x = starT)
def hasN (ns : List ByteArray) (r : ByteArray) : Bool := ns.any fun x => decide (lowS x = lowS r)
theorem alikeN_take {ns : List ByteArray} {j : Nat} {x r : ByteArray} (h : ns[j]? = some x) : alikeN (ns.take (j + 1)) r = (alikeN (ns.take j) r || (decide (lowS r = lowS x) && !decide (x = starT))) := by
  unfold alikeN
  rw [List.take_add_one, h]
  simp
theorem low_star {x : ByteArray} : lowS x = lowS starT ↔ x = starT := by
  constructor
  · intro h
    have e : x.data.toList.map lowU = [42] := by
      have h2 := congrArg (fun b : ByteArray => b.data.toList) h
      have h3 : (lowS starT).data.toList = [42] := by decide +kernel
      rw [h3] at h2
      exact h2
    match hx : x.data.toList, e with
    | [c], e =>
      simp only [List.map_cons, List.map_nil, List.cons.injEq, and_true] at e
      have hc : c = 42 := by
        by_cases u : 65 ≤ (c.toNat : Int) ∧ (c.toNat : Int) ≤ 90
        · have e1 := lowU_yes c u.1 u.2
          rw [e] at e1
          have : ((42 : UInt8).toNat : Int) = 42 := rfl
          omega
        · rw [lowU_no c u] at e; exact e
      subst hc
      exact ByteArray.ext (Array.ext' hx)
    | [], e => simp at e
    | c :: d :: l, e => simp at e
  · rintro rfl; rfl
theorem alike_has (ns : List ByteArray) (r : ByteArray) : alikeN ns r = (!decide (r = starT) && hasN ns r) := by
  by_cases hr : r = starT
  · subst hr
    simp only [decide_true, Bool.not_true, Bool.false_and]
    unfold alikeN
    rw [List.any_eq_false]
    intro x _
    by_cases hx : x = starT
    · simp [hx]
    · have : ¬ lowS starT = lowS x := fun e => hx (low_star.1 e.symm)
      simp [this]
  · simp only [hr, decide_false, Bool.not_false, Bool.true_and]
    unfold alikeN hasN
    congr 1
    funext x
    by_cases hx : lowS r = lowS x
    · have h2 : ¬ x = starT := fun e => hr (low_star.1 (by rw [hx, e]))
      simp [hx, h2]
    · have h2 : ¬ lowS x = lowS r := fun e => hx e.symm
      simp [hx, h2]
def fitsR (ns : List ByteArray) (r : Rec) : Bool := alikeN ns r.name && !r.has
def varyB (its : List Rec) (ns : List ByteArray) : Bool := its.all (fitsR ns)
theorem vary_bad {its : List Rec} {ns : List ByteArray} {k : Nat} {r : Rec} (h : its[k]? = some r) (hf : fitsR ns r = false) : varyB its ns = false := by
  rw [← Bool.not_eq_true]
  intro e
  have := List.all_eq_true.1 e r (List.mem_of_getElem? h)
  rw [hf] at this
  cases this
theorem vary_ok {its : List Rec} {ns : List ByteArray} (h : ∀ (k : Nat) r, its[k]? = some r → fitsR ns r = true) : varyB its ns = true := by
  refine List.all_eq_true.2 fun r hr => ?_
  obtain ⟨i, hi⟩ := List.getElem?_of_mem hr
  exact h i r hi
theorem vret_bool {a b : Bool} (h : a = b) : Ending.returned (.bool a) = Ending.returned (.bool b) := by rw [h]
theorem vstr_ne {a b : ByteArray} (h : ¬ a = b) : (a.toList == b.toList) = false := by
  rw [beq_eq_false_iff_ne]
  intro e
  rw [ByteArray.toList_eq, ByteArray.toList_eq] at e
  exact h (ByteArray.ext (Array.ext' e))
theorem vlit_ne {m : ByteArray} {l : List UInt8} (h : ¬ m = ⟨l.toArray⟩) : (m.toList == l) = false := by
  rw [beq_eq_false_iff_ne]
  intro e
  rw [ByteArray.toList_eq] at e
  exact h (ByteArray.ext (Array.ext' (by simpa using e)))
theorem vword_max {s : ByteArray} (h : wordS s = true) : s.size ≤ 64 := by
  simp only [wordS, Bool.and_eq_true, decide_eq_true_eq] at h
  omega
set_option maxRecDepth 100000 in
set_option maxHeartbeats 4000000 in
theorem areKeyNames_any (w : World) (a : Option Addr) (cap : Nat) (ns : List ByteArray) (hn : ns.length ≤ 1048576) (hset : SetIs w) (hi : TIn w a ns) :
    Calls Tryz.prog 26 #[.slice a ns.length cap] w fun e w' => e = .returned (.bool (decide (namesC ns = 0))) ∧ Below w.heap.size w w' := by
  have HI : Hid (TIn w a ns) := hi
  have HS : Hid (SetIs w) := hset
  clear hi hset
  by_cases h4 : 4 < ns.length
  · have HE : Hid (decide (namesC ns = 0) = false) := by show _ = _; rw [namesC_many h4]; rfl
    generalize ns.length = n at *
    have g : (4 : Int) < n := by omega
    go_enter Tryz.func26, Tryz.ntmps26
    go_wp2_with fail
    go_ret
    exact ⟨vret_bool HE.out.symm, Below.refl _ _⟩
  have HBAD : Hid (wordsA ns = false → decide (namesC ns = 0) = false) := fun h => by rw [namesC_bad h4 h]; rfl
  have HOK : Hid (wordsA ns = true → decide (namesC ns = 0) = true) := fun h => by rw [namesC_ok h4 h]; rfl
  generalize hnn : ns.length = n at *
  have HN : Hid (ns.length = n) := hnn
  clear hnn
  have g : ¬ (4 : Int) < n := by omega
  go_enter Tryz.func26, Tryz.ntmps26
  go_wp2_with fail
  go_loopw [10] (fun i wr => ∃ k : Nat, k ≤ n ∧ i = .int .i64 k ∧ (∀ (j : Nat) x, j < k → ns[j]? = some x → wordS x = true) ∧ Below w.heap.size w wr) (fun i _ => n - (intOf i).toNat)
  case atStart => exact ⟨0, Nat.zero_le _, rfl, fun j x hj _ => absurd hj (by omega), Below.refl _ _⟩
  case round =>
    obtain ⟨k, hk, rfl, hw, hb⟩ := hrel
    have HW : Hid (∀ (j : Nat) x, j < k → ns[j]? = some x → wordS x = true) := hw
    clear hw
    by_cases hlt : k < n
    · obtain ⟨x, hx⟩ : ∃ r, ns[k]? = some r := ⟨ns[k]'(by have := HN.out; omega), List.getElem?_eq_getElem _⟩
      rcases HI.out with h | ⟨b, off, rfl, hat⟩
      · subst h; simp at hx
      have p1 := (hat.keep hb) k x hx
      have HX : Hid (ns[k]? = some x) := hx
      have C := implIsWord_set x wr (HS.out.below hb)
      have gk : (k : Int) < n := by omega
      clear hx hat
      by_cases hw : wordS x = true
      · rw [hw] at C
        have HWX : Hid (wordS x = true) := hw
        clear hw
        go_wp2_with fail
        refine C.mono ?_
        rintro e w2 ⟨rfl, hb2⟩
        have HB2 : Hid (Below w.heap.size w w2) := hb.trans (hb2.mono hb.size)
        clear hb2
        go_wp2_with fail
        go_roundw
        case rel =>
          refine ⟨k + 1, by omega, by go_num, fun j y hj hy => ?_, HB2.out⟩
          by_cases e : j = k
          · subst e
            rw [HX.out] at hy
            obtain rfl := Option.some.inj hy
            exact HWX.out
          · exact HW.out j y (by omega) hy
        case measure => simp [intOf]; omega
      · have hwf : wordS x = false := by simpa using hw
        rw [hwf] at C
        have HE := HBAD.out (wordsA_not HX.out hwf)
        have HE' : Hid (decide (namesC ns = 0) = false) := HE
        clear hw hwf HE
        go_wp2_with fail
        refine C.mono ?_
        rintro e w2 ⟨rfl, hb2⟩
        have HB2 : Hid (Below w.heap.size w w2) := hb.trans (hb2.mono hb.size)
        clear hb2
        go_wp2_with fail
        go_ret
        exact ⟨vret_bool HE'.out.symm, HB2.out⟩
    · have HE : Hid (decide (namesC ns = 0) = true) := HOK.out (wordsA_of fun j x hx => HW.out j x (by have := (List.getElem?_eq_some_iff.1 hx).1; have := HN.out; omega) hx)
      go_wp2_with fail
      go_ret
      exact ⟨vret_bool HE.out.symm, hb⟩
set_option maxRecDepth 100000 in
set_option maxHeartbeats 4000000 in
theorem hasAlike_any (w : World) (a : Option Addr) (cap : Nat) (ns : List ByteArray) (r : ByteArray) (hn : ns.length ≤ 1048576) (hr : r.size ≤ 1000) (hz : ∀ (j : Nat) x, ns[j]? = some x → x.size ≤ 1000) (hi : TIn w a ns) :
    Calls Tryz.prog 28 #[.slice a ns.length cap, .string r] w fun e w' => e = .returned (.bool (hasN ns r)) ∧ Below w.heap.size w w' := by
  have HI : Hid (TIn w a ns) := hi
  have HZ : Hid (∀ (j : Nat) x, ns[j]? = some x → x.size ≤ 1000) := hz
  have SR := smallName_any r w hr
  clear hi hz
  obtain ⟨q, hq⟩ : ∃ q, Hid (lowS r = q) := ⟨_, rfl⟩
  rw [hq.out] at SR
  have HBAD : Hid (∀ (j : Nat) x, ns[j]? = some x → lowS x = q → hasN ns r = true) := fun j x hx h => List.any_eq_true.2 ⟨x, List.mem_of_getElem? hx, by rw [h, hq.out]; simp⟩
  have HOK : Hid ((∀ (j : Nat) x, ns[j]? = some x → ¬ lowS x = q) → hasN ns r = false) := fun h => by
    show List.any _ _ = false
    rw [List.any_eq_false]
    intro x hx
    obtain ⟨j, hj⟩ := List.getElem?_of_mem hx
    rw [hq.out]
    simpa using h j x hj
  clear hq
  generalize hnn : ns.length = n at *
  have HN : Hid (ns.length = n) := hnn
  clear hnn
  go_enter Tryz.func28, Tryz.ntmps28
  go_wp2_with fail
  refine SR.mono ?_
  rintro e w0 ⟨rfl, hb0⟩
  have HB0 : Hid (Below w.heap.size w w0) := hb0
  clear hb0 SR
  go_wp2_with fail
  go_loopw [12] (fun i wr => ∃ k : Nat, k ≤ n ∧ i = .int .i64 k ∧ (∀ (j : Nat) x, j < k → ns[j]? = some x → ¬ lowS x = q) ∧ Below w.heap.size w wr) (fun i _ => n - (intOf i).toNat)
  case atStart => exact ⟨0, Nat.zero_le _, rfl, fun j x hj _ => absurd hj (by omega), HB0.out⟩
  case round =>
    obtain ⟨k, hk, rfl, hw, hb⟩ := hrel
    have HW : Hid (∀ (j : Nat) x, j < k → ns[j]? = some x → ¬ lowS x = q) := hw
    clear hw HB0
    by_cases hlt : k < n
    · obtain ⟨x, hx⟩ : ∃ r, ns[k]? = some r := ⟨ns[k]'(by have := HN.out; omega), List.getElem?_eq_getElem _⟩
      rcases HI.out with h | ⟨b, off, rfl, hat⟩
      · subst h; simp at hx
      have p1 := (hat.keep hb) k x hx
      have HX : Hid (ns[k]? = some x) := hx
      have C := smallName_any x wr (HZ.out k x hx)
      have gk : (k : Int) < n := by omega
      clear hx hat
      by_cases hw : lowS x = q
      · rw [hw] at C
        have HE : Hid (hasN ns r = true) := HBAD.out k x HX.out hw
        have hbe : (q.toList == q.toList) = true := by simp
        clear hw
        go_wp2_with fail
        refine C.mono ?_
        rintro e w2 ⟨rfl, hb2⟩
        have HB2 : Hid (Below w.heap.size w w2) := hb.trans (hb2.mono hb.size)
        clear hb2
        go_wp2_with fail
        go_ret
        exact ⟨vret_bool HE.out.symm, HB2.out⟩
      · have hbe := vstr_ne hw
        have HWX : Hid (¬ lowS x = q) := hw
        obtain ⟨lx, hlx⟩ : ∃ y, Hid (lowS x = y) := ⟨_, rfl⟩
        rw [hlx.out] at C hbe
        clear hw hlx
        go_wp2_with fail
        refine C.mono ?_
        rintro e w2 ⟨rfl, hb2⟩
        have HB2 : Hid (Below w.heap.size w w2) := hb.trans (hb2.mono hb.size)
        clear hb2
        go_wp2_with fail
        go_roundw
        case rel =>
          refine ⟨k + 1, by omega, by go_num, fun j y hj hy => ?_, HB2.out⟩
          by_cases e : j = k
          · subst e
            rw [HX.out] at hy
            obtain rfl := Option.some.inj hy
            exact HWX.out
          · exact HW.out j y (by omega) hy
        case measure => simp [intOf]; omega
    · have HE : Hid (hasN ns r = false) := HOK.out fun j x hx => HW.out j x (by have := (List.getElem?_eq_some_iff.1 hx).1; have := HN.out; omega) hx
      go_wp2_with fail
      go_ret
      exact ⟨vret_bool HE.out.symm, hb⟩
set_option maxRecDepth 100000 in
set_option maxHeartbeats 8000000 in
theorem l6Vary_any (w : World) (a : Option Addr) (cap : Nat) (l : List Hdr) (c : Option Addr) (nc : Nat) (ns : List ByteArray) (h0 : headsC l = 0) (hn4 : namesC ns = 0) (hi : HdsIn w a l) (ht : TIn w c ns) :
    Calls Tryz.prog 31 #[.slice a l.length cap, .slice c ns.length nc] w fun e w' => e = .returned (.bool (decide (parseC (underT (lowS ⟨#[118, 97, 114, 121]⟩) l) = 0) && varyB (parseL (underT (lowS ⟨#[118, 97, 114, 121]⟩) l)) ns)) ∧ Below w.heap.size w w' := by
  have H1 := l6Items_any w a cap l ⟨#[118, 97, 114, 121]⟩ h0 (by decide) hi
  obtain ⟨hl4, hww⟩ := names_zero hn4
  have HZ : Hid (∀ (j : Nat) x, ns[j]? = some x → x.size ≤ 64) := fun j x hx => vword_max (wordsA_mem hww hx)
  clear hi h0 hn4 hww
  generalize l.length = n at *
  obtain ⟨t, hto⟩ : ∃ t, Hid (underT (lowS ⟨#[118, 97, 114, 121]⟩) l = t) := ⟨_, rfl⟩
  rw [hto.out] at H1 ⊢
  clear hto
  have HPL := parseL_len t
  have HPW : Hid (∀ (k : Nat) r, (parseL t)[k]? = some r → r.name.size ≤ 64) := fun k r hr => vword_max (parse_word (List.mem_of_getElem? hr))
  generalize hnn : ns.length = tn at *
  have HN : Hid (ns.length = tn) := hnn
  clear hnn
  have HTI : Hid (TIn w c ns) := ht
  clear ht
  go_enter Tryz.func31, Tryz.ntmps31
  go_wp2_with fail
  refine H1.mono ?_
  rintro e w1 ⟨⟨ia, inn, ik, rfl, ho⟩, hb1⟩
  obtain ⟨ia', ik', eq, hit⟩ := ho.at
  simp only [Value.slice.injEq] at eq
  obtain ⟨rfl, hin, rfl⟩ := eq
  have HIT : Hid (ItsIn w1 ia (parseL t)) := hit
  have HT1 : Hid (TIn w1 c ns) := HTI.out.keep hb1
  have HB1 : Hid (Below w.heap.size w w1) := hb1
  have hi20 : inn ≤ 20 := by omega
  have HIN : Hid (inn = (parseL t).length) := hin
  clear hit ho hb1 HTI hin H1 HPL
  by_cases hc : ¬ parseC t = 0
  · have HE : Hid ((decide (parseC t = 0) && varyB (parseL t) ns) = false) := by show _ = _; rw [decide_eq_false hc]; rfl
    rw [decide_eq_false hc]
    clear hc
    go_wp2_with fail
    go_ret
    exact ⟨vret_bool HE.out.symm, HB1.out⟩
  have hc0 : parseC t = 0 := Decidable.not_not.1 hc
  rw [decide_eq_true hc0]
  obtain ⟨I, hI⟩ : ∃ I, Hid (parseL t = I) := ⟨_, rfl⟩
  rw [hI.out] at HIT HIN HPW
  have HRES : Hid (∀ b, varyB I ns = b → (decide (parseC t = 0) && varyB (parseL t) ns) = b) := fun b h => by rw [decide_eq_true hc0, hI.out, h]; rfl
  clear hc hc0 hI
  go_wp2_with fail
  go_loopw [7] (fun i wr => ∃ k : Nat, k ≤ inn ∧ i = .int .i64 k ∧ (∀ (j : Nat) r, j < k → I[j]? = some r → fitsR ns r = true) ∧ Below w1.heap.size w1 wr) (fun i _ => inn - (intOf i).toNat)
  case atStart => exact ⟨0, Nat.zero_le _, rfl, fun j x hj _ => absurd hj (by omega), Below.refl _ _⟩
  case round =>
    obtain ⟨k, hk, rfl, hf, hb⟩ := hrel
    have HF : Hid (∀ (j : Nat) r, j < k → I[j]? = some r → fitsR ns r = true) := hf
    clear hf
    by_cases hlt : k < inn
    · obtain ⟨r, hr⟩ : ∃ r, I[k]? = some r := ⟨I[k]'(by have := HIN.out; omega), List.getElem?_eq_getElem _⟩
      have HX : Hid (I[k]? = some r) := hr
      have hrz := HPW.out k r hr
      rcases HIT.out with h | ⟨ib, ioff, rfl, hat⟩
      · rw [h] at hr; simp at hr
      have HAT : Hid (∀ W, Below w1.heap.size w1 W → W.cell? ⟨ib, ioff + k * 3, none⟩ = some (.string r.name) ∧ W.cell? ⟨ib, ioff + k * 3 + 1, none⟩ = some (.bool r.has)) := fun W hb => ⟨((hat.keep hb) k r hr).1, ((hat.keep hb) k r hr).2.1⟩
      have gk : (k : Int) < inn := by omega
      obtain ⟨rn, rh, rv⟩ := r
      simp only at hrz
      have HB : Hid (Below w1.heap.size w1 wr) := hb
      clear hr hat hb HPW
      go_wp2_with fail
      obtain ⟨wo, rfl⟩ : ∃ wo : World, wo = wr := ⟨_, rfl⟩
      go_loopw [8, 9] (fun f i wr => ∃ j : Nat, j ≤ tn ∧ i = .int .i64 j ∧ f = .bool (alikeN (ns.take j) rn) ∧ Below w1.heap.size w1 wr) (fun _ i _ => tn - (intOf i).toNat)
      case atStart => exact ⟨0, Nat.zero_le _, rfl, rfl, HB.out⟩
      case round =>
        obtain ⟨j, hj, rfl, rfl, hbj⟩ := hrel
        have HBJ : Hid (Below w1.heap.size w1 wr) := hbj
        have p1 := (HAT.out _ hbj).1
        have p2 := (HAT.out _ hbj).2
        try simp only at p1 p2
        clear HB
        by_cases hlj : j < tn
        · obtain ⟨x, hx⟩ : ∃ r, ns[j]? = some r := ⟨ns[j]'(by have := HN.out; omega), List.getElem?_eq_getElem _⟩
          have hxz := HZ.out j x hx
          rcases HT1.out with h | ⟨nb, noff, rfl, hatn⟩
          · rw [h] at hx; simp at hx
          have n1 := (hatn.keep hbj) j x hx
          have HA : Hid (alikeN (ns.take (j + 1)) rn = (alikeN (ns.take j) rn || (decide (lowS rn = lowS x) && !decide (x = starT)))) := alikeN_take hx
          have SA : Hid (∀ w, Calls Tryz.prog 57 #[.string rn, .string x] w fun e w' => e = .returned (.bool (decide (lowS rn = lowS x))) ∧ Below w.heap.size w w') := fun w => l4Alike_any rn x w (by omega) (by omega)
          have gj : (j : Int) < tn := by omega
          clear hx hatn hbj p2
          generalize alikeN (ns.take j) rn = f0 at *
          have q1 := cell_regrown p1
          have q2 := cell_regrown n1
          by_cases he : lowS rn = lowS x
          · rw [decide_eq_true he] at SA HA
            clear he
            have cA : ∀ d' os, Calls Tryz.prog 57 #[.string rn, .string x] (grow (redrawn wr d') os) fun e w'' => e = .returned (.bool true) ∧ ∃ p : Regrown, w'' = grow (redrawn wr p.d) p.os := fun d' os => Calls.regrown_of (SA.out _)
            by_cases hs : x = starT
            · subst hs
              rw [decide_eq_true rfl] at HA
              have hbe : (starT.toList == [42]) = true := by decide +kernel
              generalize starT = xs at *
              go_wp2_with fail
              refine wp_region_quiet_below (by kernel_rfl) (by kernel_rfl) ?_
              repeat (go_big_quiet_step (first | (go_at_call 57; exact cA _ _)))
              refine wpQuiet_nil ?_
              intro W2 hW2
              have hbW2 : Below wr.heap.size wr W2 := by
                obtain ⟨⟨d, os⟩, rfl⟩ := hW2
                exact below_regrown wr d os
              have HB2 : Hid (Below w1.heap.size w1 W2) := HBJ.out.trans (hbW2.mono HBJ.out.size)
              clear hW2 hbW2 cA q1 q2 SA p1 n1
              go_wp2_with fail
              go_roundw
              case rel => exact ⟨j + 1, by omega, by go_num, by rw [HA.out]; simp, HB2.out⟩
              case measure => simp [intOf]; omega
            · rw [decide_eq_false hs] at HA
              have hbe : (x.toList == [42]) = false := vlit_ne hs
              clear hs
              go_wp2_with fail
              refine wp_region_quiet_below (by kernel_rfl) (by kernel_rfl) ?_
              repeat (go_big_quiet_step (first | (go_at_call 57; exact cA _ _)))
              refine wpQuiet_nil ?_
              intro W2 hW2
              have hbW2 : Below wr.heap.size wr W2 := by
                obtain ⟨⟨d, os⟩, rfl⟩ := hW2
                exact below_regrown wr d os
              have HB2 : Hid (Below w1.heap.size w1 W2) := HBJ.out.trans (hbW2.mono HBJ.out.size)
              clear hW2 hbW2 cA q1 q2 SA p1 n1
              go_wp2_with fail
              go_roundw
              case rel => exact ⟨j + 1, by omega, by go_num, by rw [HA.out]; simp, HB2.out⟩
              case measure => simp [intOf]; omega
          · rw [decide_eq_false he] at SA HA
            clear he
            have cA : ∀ d' os, Calls Tryz.prog 57 #[.string rn, .string x] (grow (redrawn wr d') os) fun e w'' => e = .returned (.bool false) ∧ ∃ p : Regrown, w'' = grow (redrawn wr p.d) p.os := fun d' os => Calls.regrown_of (SA.out _)
            go_wp2_with fail
            refine wp_region_quiet_below (by kernel_rfl) (by kernel_rfl) ?_
            repeat (go_big_quiet_step (first | (go_at_call 57; exact cA _ _)))
            refine wpQuiet_nil ?_
            intro W2 hW2
            have hbW2 : Below wr.heap.size wr W2 := by
              obtain ⟨⟨d, os⟩, rfl⟩ := hW2
              exact below_regrown wr d os
            have HB2 : Hid (Below w1.heap.size w1 W2) := HBJ.out.trans (hbW2.mono HBJ.out.size)
            clear hW2 hbW2 cA q1 q2 SA p1 n1
            go_wp2_with fail
            go_roundw
            case rel => exact ⟨j + 1, by omega, by go_num, by rw [HA.out]; simp, HB2.out⟩
            case measure => simp [intOf]; omega
        · have ej : ns.take j = ns := List.take_of_length_le (by have := HN.out; omega)
          rw [ej]
          have gj : ¬ (j : Int) < tn := by omega
          have KB : Hid (Below w.heap.size w wr) := HB1.out.trans (HBJ.out.mono HB1.out.size)
          obtain ⟨bf, hbf⟩ : ∃ b, Hid (alikeN ns rn = b) := ⟨_, rfl⟩
          rw [hbf.out]
          clear ej hbj p1
          cases bf
          · have HE := HRES.out _ (vary_bad HX.out (show fitsR ns ⟨rn, rh, rv⟩ = false by unfold fitsR; rw [hbf.out]; rfl))
            have HE' : Hid ((decide (parseC t = 0) && varyB (parseL t) ns) = false) := HE
            clear HE
            go_wp2_with fail
            go_ret
            exact ⟨vret_bool HE'.out.symm, KB.out⟩
          · cases rh
            · have HFI : Hid (fitsR ns ⟨rn, false, rv⟩ = true) := by show _ = _; unfold fitsR; rw [hbf.out]; rfl
              go_wp2_with fail
              go_roundw
              case rel =>
                refine ⟨k + 1, by omega, by go_num, fun i y hi hy => ?_, HBJ.out⟩
                by_cases e : i = k
                · subst e
                  rw [HX.out] at hy
                  obtain rfl := Option.some.inj hy
                  exact HFI.out
                · exact HF.out i y (by omega) hy
              case measure => simp [intOf]; omega
            · have HE := HRES.out _ (vary_bad HX.out (show fitsR ns ⟨rn, true, rv⟩ = false by unfold fitsR; rw [hbf.out]; rfl))
              have HE' : Hid ((decide (parseC t = 0) && varyB (parseL t) ns) = false) := HE
              clear HE
              go_wp2_with fail
              go_ret
              exact ⟨vret_bool HE'.out.symm, KB.out⟩
    · have HE := HRES.out _ (vary_ok (its := I) (ns := ns) fun j r hr => HF.out j r (by have := (List.getElem?_eq_some_iff.1 hr).1; have := HIN.out; omega) hr)
      have HE' : Hid ((decide (parseC t = 0) && varyB (parseL t) ns) = true) := HE
      have KB : Hid (Below w.heap.size w wr) := HB1.out.trans (hb.mono HB1.out.size)
      clear HE
      go_wp2_with fail
      go_ret
      exact ⟨vret_bool HE'.out.symm, KB.out⟩
end Go.Proofs.YtmnblligifgcjaaGreatDoor
/-
  VaryFits on both sides.
-/
namespace Go.Proofs.YtmnblligifgcjaaGreatDoor
open Go.ChangeShapes Go.WideShapes Go.ChangeAt Go.RowKit Go.Sort
def varyN : ByteArray := ⟨#[118, 97, 114, 121]⟩
theorem vary_low : lowS ⟨#[118, 97, 114, 121]⟩ = varyN := by decide +kernel
theorem varyI_low : lowS ⟨#[86, 97, 114, 121]⟩ = varyN := by decide +kernel
def vfB (l : List Hdr) (ns : List ByteArray) : Bool := decide (headsC l = 0) && decide (namesC ns = 0) && (decide (parseC (underT varyN l) = 0) && varyB (parseL (underT varyN l)) ns)
theorem vf_heads {l : List Hdr} {ns : List ByteArray} (h : ¬ headsC l = 0) : vfB l ns = false := by unfold vfB; rw [decide_eq_false h]; rfl
theorem vf_names {l : List Hdr} {ns : List ByteArray} (h : ¬ namesC ns = 0) : vfB l ns = false := by unfold vfB; rw [decide_eq_false h]; simp
theorem vf_ok {l : List Hdr} {ns : List ByteArray} (h : headsC l = 0) (h2 : namesC ns = 0) : vfB l ns = (decide (parseC (underT varyN l) = 0) && varyB (parseL (underT varyN l)) ns) := by unfold vfB; rw [decide_eq_true h, decide_eq_true h2]; rfl
set_option maxRecDepth 100000 in
set_option maxHeartbeats 4000000 in
theorem specVary_any (w : World) (a : Option Addr) (cap : Nat) (l : List Hdr) (c : Option Addr) (nc : Nat) (ns : List ByteArray) (hl : l.length ≤ 1048576) (hn : ns.length ≤ 1048576) (hi : HdsIn w a l) (ht : TIn w c ns) :
    Calls Tryz.prog 10 #[.slice a l.length cap, .slice c ns.length nc] w fun e w' => e = .returned (.bool (vfB l ns)) ∧ Below w.heap.size w w' := by
  have HA := specHFault_any w a cap l hl hi
  have HN : Hid (∀ W, Below w.heap.size w W → Calls Tryz.prog 30 #[.slice c ns.length nc] W fun e w' => e = .returned (.int .i64 (namesC ns)) ∧ Below W.heap.size W w') := fun W hb => l5Names_any W c nc ns hn (ht.keep hb)
  by_cases h0 : headsC l = 0
  · by_cases h2 : namesC ns = 0
    · have HV : Hid (∀ W, Below w.heap.size w W → Calls Tryz.prog 31 #[.slice a l.length cap, .slice c ns.length nc] W fun e w' => e = .returned (.bool (vfB l ns)) ∧ Below W.heap.size W w') := fun W hb => by
        have := l6Vary_any W a cap l c nc ns h0 h2 (hi.keep hb) (ht.keep hb)
        rw [vary_low] at this
        rw [vf_ok h0 h2]
        exact this
      rw [h0] at HA
      rw [h2] at HN
      clear h0 h2 hi ht
      obtain ⟨b, hb⟩ : ∃ b, Hid (vfB l ns = b) := ⟨_, rfl⟩
      rw [hb.out] at HV ⊢
      generalize l.length = n at *
      generalize ns.length = tn at *
      go_enter Tryz.func10, Tryz.ntmps10
      go_wp2_with fail
      refine HA.mono ?_
      rintro e w1 ⟨rfl, hb1⟩
      have HB1 : Hid (Below w.heap.size w w1) := hb1
      clear hb1 HA
      go_wp2_with fail
      refine (HN.out _ HB1.out).mono ?_
      rintro e w2 ⟨rfl, hb2⟩
      have HB2 : Hid (Below w.heap.size w w2) := HB1.out.trans (hb2.mono HB1.out.size)
      clear hb2 HB1 HN
      go_wp2_with fail
      refine (HV.out _ HB2.out).mono ?_
      rintro e w3 ⟨rfl, hb3⟩
      have HB3 : Hid (Below w.heap.size w w3) := HB2.out.trans (hb3.mono HB2.out.size)
      clear hb3 HB2 HV
      go_wp2_with fail
      go_ret
      exact ⟨rfl, HB3.out⟩
    · rw [vf_names h2]
      have hne : (namesC ns == 0) = false := by simpa using h2
      rw [h0] at HA
      clear h0 h2 hi ht
      generalize l.length = n at *
      generalize ns.length = tn at *
      generalize namesC ns = q at *
      go_enter Tryz.func10, Tryz.ntmps10
      go_wp2_with fail
      refine HA.mono ?_
      rintro e w1 ⟨rfl, hb1⟩
      have HB1 : Hid (Below w.heap.size w w1) := hb1
      clear hb1 HA
      go_wp2_with fail
      refine (HN.out _ HB1.out).mono ?_
      rintro e w2 ⟨rfl, hb2⟩
      have HB2 : Hid (Below w.heap.size w w2) := HB1.out.trans (hb2.mono HB1.out.size)
      clear hb2 HB1 HN
      go_wp2_with fail
      go_ret
      exact ⟨rfl, HB2.out⟩
  · rw [vf_heads h0]
    have hne : (headsC l == 0) = false := by simpa using h0
    clear h0 hi ht
    generalize l.length = n at *
    generalize headsC l = q at *
    go_enter Tryz.func10, Tryz.ntmps10
    go_wp2_with fail
    refine HA.mono ?_
    rintro e w1 ⟨rfl, hb1⟩
    have HB1 : Hid (Below w.heap.size w w1) := hb1
    clear hb1 HA
    go_wp2_with fail
    go_ret
    exact ⟨rfl, HB1.out⟩
set_option maxRecDepth 100000 in
set_option maxHeartbeats 8000000 in
theorem implVary_any (w : World) (a : Option Addr) (cap : Nat) (l : List Hdr) (c : Option Addr) (nc : Nat) (ns : List ByteArray) (hl : l.length ≤ 1048576) (hcap : l.length ≤ cap) (hn : ns.length ≤ 1048576) (hset : SetIs w) (hi : HdsIn w a l) (ht : TIn w c ns) :
    Calls Tryz.prog 9 #[.slice a l.length cap, .slice c ns.length nc] w fun e w' => e = .returned (.bool (vfB l ns)) ∧ Below w.heap.size w w' := by
  have HA := implHFault_any w a cap l hl hset hi
  by_cases h0 : ¬ headsC l = 0
  · rw [vf_heads h0]
    have hne : (headsC l != 0) = true := by simpa using h0
    clear h0 hi ht
    generalize l.length = n at *
    generalize headsC l = q at *
    go_enter Tryz.func9, Tryz.ntmps9
    go_wp2_with fail
    refine HA.mono ?_
    rintro e w1 ⟨rfl, hb1⟩
    have HB1 : Hid (Below w.heap.size w w1) := hb1
    clear hb1 HA
    go_wp2_with fail
    go_ret
    exact ⟨rfl, HB1.out⟩
  have h0' : headsC l = 0 := Decidable.not_not.1 h0
  clear h0
  rw [h0'] at HA
  have HN : Hid (∀ W, Below w.heap.size w W → Calls Tryz.prog 26 #[.slice c ns.length nc] W fun e w' => e = .returned (.bool (decide (namesC ns = 0))) ∧ Below W.heap.size W w') := fun W hb => areKeyNames_any W c nc ns hn (hset.below hb) (ht.keep hb)
  by_cases h2 : ¬ namesC ns = 0
  · rw [vf_names h2]
    rw [decide_eq_false h2] at HN
    clear h0' h2 hi ht
    generalize l.length = n at *
    generalize ns.length = tn at *
    go_enter Tryz.func9, Tryz.ntmps9
    go_wp2_with fail
    refine HA.mono ?_
    rintro e w1 ⟨rfl, hb1⟩
    have HB1 : Hid (Below w.heap.size w w1) := hb1
    clear hb1 HA
    go_wp2_with fail
    refine (HN.out _ HB1.out).mono ?_
    rintro e w2 ⟨rfl, hb2⟩
    have HB2 : Hid (Below w.heap.size w w2) := HB1.out.trans (hb2.mono HB1.out.size)
    clear hb2 HB1 HN
    go_wp2_with fail
    go_ret
    exact ⟨rfl, HB2.out⟩
  have h2' : namesC ns = 0 := Decidable.not_not.1 h2
  clear h2
  rw [decide_eq_true h2'] at HN
  obtain ⟨hl4, hww⟩ := names_zero h2'
  have HU : Hid (∀ W, Below w.heap.size w W → Calls Tryz.prog 27 #[.slice a l.length cap, .string ⟨#[86, 97, 114, 121]⟩] W fun e w' => ParseOut (underT varyN l) W.heap.size e w' ∧ Below W.heap.size W w') := fun W hb => by
    have := itemsUnder_any W a cap l ⟨#[86, 97, 114, 121]⟩ h0' (by decide +kernel) hcap (hset.below hb) (hi.keep hb)
    rw [varyI_low] at this
    exact this
  have HH : Hid (∀ W r, Below w.heap.size w W → r.size ≤ 64 → Calls Tryz.prog 28 #[.slice c ns.length nc, .string r] W fun e w' => e = .returned (.bool (hasN ns r)) ∧ Below W.heap.size W w') := fun W r hb hr => hasAlike_any W c nc ns r hn (by omega) (fun j x hx => by have := vword_max (wordsA_mem hww hx); omega) (ht.keep hb)
  have HVF : Hid (vfB l ns = (decide (parseC (underT varyN l) = 0) && varyB (parseL (underT varyN l)) ns)) := vf_ok h0' h2'
  clear hset hi ht h0' h2' hcap hww
  obtain ⟨t, hto⟩ : ∃ t, Hid (underT varyN l = t) := ⟨_, rfl⟩
  rw [hto.out] at HU HVF
  clear hto
  have HPL := parseL_len t
  have HPW : Hid (∀ (k : Nat) r, (parseL t)[k]? = some r → r.name.size ≤ 64) := fun k r hr => vword_max (parse_word (List.mem_of_getElem? hr))
  generalize l.length = n at *
  generalize ns.length = tn at *
  go_enter Tryz.func9, Tryz.ntmps9
  go_wp2_with fail
  refine HA.mono ?_
  rintro e w1 ⟨rfl, hb1⟩
  have HB1 : Hid (Below w.heap.size w w1) := hb1
  clear hb1 HA
  go_wp2_with fail
  refine (HN.out _ HB1.out).mono ?_
  rintro e w2 ⟨rfl, hb2⟩
  have HB2 : Hid (Below w.heap.size w w2) := HB1.out.trans (hb2.mono HB1.out.size)
  clear hb2 HB1 HN
  go_wp2_with fail
  refine (HU.out _ HB2.out).mono ?_
  rintro e w3 ⟨⟨v, rfl, ho⟩, hb3⟩
  obtain ⟨ia, ik, hv, hit⟩ := ho.at
  obtain ⟨inn, hin⟩ : ∃ n, n = (parseL t).length := ⟨_, rfl⟩
  rw [← hin] at hv HPL
  subst hv
  have HIN : Hid (inn = (parseL t).length) := hin
  obtain ⟨pc, hpc⟩ : ∃ c, Hid (parseC t = c) := ⟨_, rfl⟩
  rw [hpc.out]
  have b3 := HB2.out.trans (hb3.mono HB2.out.size)
  have al : Below w3.heap.size w3 (w3.alloc (.cells #[.int .i64 pc, .slice ia inn ik] 61)) := (Below.refl _ _).alloc (Nat.le_refl _) _
  obtain ⟨W, hW⟩ : ∃ X, Hid (X = w3.alloc (.cells #[.int .i64 pc, .slice ia inn ik] 61)) := ⟨_, rfl⟩
  have K : Hid (Below w.heap.size w W ∧ ItsIn W ia (parseL t) ∧ W.cell? ⟨w3.heap.size, 0, none⟩ = some (.int .i64 pc) ∧ W.cell? ⟨w3.heap.size, 1, none⟩ = some (.slice ia inn ik)) := by
    rw [hW.out]
    exact ⟨b3.trans (al.mono b3.size), hit.keep al, by simp, by simp⟩
  clear hb3 ho HB2 b3 al HU hit hin
  go_upto_region 4 with fail
  rw [← hW.out]
  clear hW
  generalize w3.heap.size = B3 at *
  clear w3
  have q0 := K.out.2.2.1
  have q1 := K.out.2.2.2
  by_cases hc : ¬ pc = 0
  · have hne : (pc != 0) = true := by simpa using hc
    have HE : Hid (vfB l ns = false) := by show _ = _; rw [HVF.out, hpc.out, decide_eq_false hc]; rfl
    go_wp2_with fail
    go_ret
    exact ⟨vret_bool HE.out.symm, K.out.1⟩
  obtain rfl : pc = 0 := Decidable.not_not.1 hc
  obtain ⟨I, hI⟩ : ∃ I, Hid (parseL t = I) := ⟨_, rfl⟩
  have HRES : Hid (∀ b, varyB I ns = b → vfB l ns = b) := fun b h => by rw [HVF.out, hpc.out, hI.out, h]; rfl
  rw [hI.out] at HIN HPW K
  have HK : Hid (Below w.heap.size w W ∧ ItsIn W ia I) := ⟨K.out.1, K.out.2.1⟩
  clear hc hI HVF hpc K
  go_wp2_with fail
  clear q0 q1
  go_loopw [24] (fun i wr => ∃ k : Nat, k ≤ inn ∧ i = .int .i64 k ∧ (∀ (j : Nat) r, j < k → I[j]? = some r → fitsR ns r = true) ∧ Below W.heap.size W wr) (fun i _ => inn - (intOf i).toNat)
  case atStart => exact ⟨0, Nat.zero_le _, rfl, fun j x hj _ => absurd hj (by omega), Below.refl _ _⟩
  case round =>
    obtain ⟨k, hk, rfl, hf, hb⟩ := hrel
    have HF : Hid (∀ (j : Nat) r, j < k → I[j]? = some r → fitsR ns r = true) := hf
    clear hf
    by_cases hlt : k < inn
    · obtain ⟨r, hr⟩ : ∃ r, I[k]? = some r := ⟨I[k]'(by have := HIN.out; omega), List.getElem?_eq_getElem _⟩
      have HX : Hid (I[k]? = some r) := hr
      have hrz := HPW.out k r hr
      rcases HK.out.2 with h | ⟨ib, ioff, rfl, hat⟩
      · rw [h] at hr; simp at hr
      obtain ⟨p1, p2, p3⟩ := (hat.keep hb) k r hr
      have gk : (k : Int) < inn := by omega
      have KB : Hid (Below w.heap.size w wr) := HK.out.1.trans (hb.mono HK.out.1.size)
      obtain ⟨rn, rh, rv⟩ := r
      simp only at p1 p2 p3 hrz
      have al : Below wr.heap.size wr (wr.alloc (.cells #[.string rn, .bool rh, .string rv] 64)) := (Below.refl _ _).alloc (Nat.le_refl _) _
      have KA : Hid (Below w.heap.size w (wr.alloc (.cells #[.string rn, .bool rh, .string rv] 64)) ∧ Below W.heap.size W (wr.alloc (.cells #[.string rn, .bool rh, .string rv] 64))) := ⟨KB.out.trans (al.mono KB.out.size), hb.trans (al.mono hb.size)⟩
      clear hr hat hb al KB
      cases rh
      · by_cases hs : rn = starT
        · have hbe : (rn.toList == [42]) = true := by rw [hs]; decide +kernel
          have HE : Hid (vfB l ns = false) := HRES.out _ (vary_bad HX.out (by unfold fitsR; rw [alike_has]; simp [hs]))
          clear hs
          go_wp2_with fail
          go_ret
          exact ⟨vret_bool HE.out.symm, KA.out.1⟩
        · have hbe : (rn.toList == [42]) = false := vlit_ne hs
          have CH := HH.out _ rn KA.out.1 hrz
          cases hh : hasN ns rn
          · rw [hh] at CH
            have HE : Hid (vfB l ns = false) := HRES.out _ (vary_bad HX.out (by unfold fitsR; rw [alike_has]; simp [hh]))
            clear hs hh
            go_wp2_with fail
            refine CH.mono ?_
            rintro e w5 ⟨rfl, hb5⟩
            have KB5 : Hid (Below w.heap.size w w5) := KA.out.1.trans (hb5.mono KA.out.1.size)
            clear hb5
            go_wp2_with fail
            go_ret
            exact ⟨vret_bool HE.out.symm, KB5.out⟩
          · rw [hh] at CH
            have HFI : Hid (fitsR ns ⟨rn, false, rv⟩ = true) := by show _ = _; unfold fitsR; rw [alike_has]; simp [hh, hs]
            clear hs hh
            go_wp2_with fail
            refine CH.mono ?_
            rintro e w5 ⟨rfl, hb5⟩
            have KB5 : Hid (Below W.heap.size W w5) := KA.out.2.trans (hb5.mono KA.out.2.size)
            clear hb5
            go_wp2_with fail
            go_roundw
            case rel =>
              refine ⟨k + 1, by omega, by go_num, fun i y hi hy => ?_, KB5.out⟩
              by_cases e : i = k
              · subst e
                rw [HX.out] at hy
                obtain rfl := Option.some.inj hy
                exact HFI.out
              · exact HF.out i y (by omega) hy
            case measure => simp [intOf]; omega
      · have HE : Hid (vfB l ns = false) := HRES.out _ (vary_bad HX.out (by unfold fitsR; simp))
        go_wp2_with fail
        go_ret
        exact ⟨vret_bool HE.out.symm, KA.out.1⟩
    · have HE : Hid (vfB l ns = true) := HRES.out _ (vary_ok fun j r hr => HF.out j r (by have := (List.getElem?_eq_some_iff.1 hr).1; have := HIN.out; omega) hr)
      have KB : Hid (Below w.heap.size w wr) := HK.out.1.trans (hb.mono HK.out.1.size)
      go_wp2_with fail
      go_ret
      exact ⟨vret_bool HE.out.symm, KB.out⟩
end Go.Proofs.YtmnblligifgcjaaGreatDoor
/-
  Texts cut at blanks, plainly.
-/
namespace Go.Proofs.YtmnblligifgcjaaGreatDoor
def blank (r : Nat) : Bool := r == 32
theorem spans_blank (s : ByteArray) (ha : ∀ (i : Nat) (h : i < s.size), s[i].toNat < 128) : ∀ (f pos : Nat) (st : Option Nat) (acc : List (Nat × Nat)), s.size ≤ pos + f → pos ≤ s.size →
    (match st with | some a => a < pos | none => True) →
    (Lib.closeSpans s (Lib.spansFromP blank s f pos st acc)).map (spanL s) = acc.map (spanL s) ++ fullP (cutG 32 (match st with | some a => spanL s (a, pos) | none => []) (s.data.toList.drop pos)) := by
  intro f
  induction f with
  | zero =>
    intro pos st acc h1 h2 h3
    have e : pos = s.size := by omega
    subst e
    have ed : s.data.toList.drop s.size = [] := List.drop_of_length_le (by simp)
    rw [ed, Lib.spansFromP]
    cases st with
    | none => simp [Lib.closeSpans, cutG, fullP]
    | some a =>
      have hne : spanL s (a, s.size) ≠ [] := by
        intro e
        have := congrArg List.length e
        simp [spanL] at this
        omega
      simp only [Lib.closeSpans, cutG, List.map_append, List.map_cons, List.map_nil]
      rw [fullP_cons _ _ hne]; rfl
  | succ f ih =>
    intro pos st acc h1 h2 h3
    by_cases hp : pos < s.size
    · have hd := decode_ascii s pos hp (ha pos hp)
      have el : s.data.toList.drop pos = s[pos] :: s.data.toList.drop (pos + 1) := by
        rw [List.drop_eq_getElem_cons (by simpa using hp)]; rfl
      have sn : ∀ a, a ≤ pos → spanL s (a, pos + 1) = spanL s (a, pos) ++ [s[pos]] := fun a hap => by
        unfold spanL
        simp only
        rw [take_snoc s pos hp, List.drop_append_of_le_length (by simp; omega)]
      unfold Lib.spansFromP
      rw [if_pos hp, hd]
      simp only
      by_cases hc : s[pos] = 32
      · have hpp : blank s[pos].toNat = true := by rw [hc]; rfl
        rw [hpp, if_pos rfl, el, hc, cutG_at]
        cases st with
        | none =>
          simp only
          rw [ih (pos + 1) none acc (by omega) (by omega) trivial, fullP_cons_nil]
        | some a =>
          simp only at h3 ⊢
          have hne : spanL s (a, pos) ≠ [] := by
            intro e
            have := congrArg List.length e
            simp [spanL] at this
            omega
          rw [ih (pos + 1) none _ (by omega) (by omega) trivial, fullP_cons _ _ hne]
          simp
      · have hpp : blank s[pos].toNat = false := by
          unfold blank
          rw [beq_eq_false_iff_ne]
          intro e
          exact hc (UInt8.toNat_inj.1 (by simpa using e))
        rw [hpp, if_neg (by decide), el, cutG_on _ _ hc]
        cases st with
        | none =>
          simp only
          rw [ih (pos + 1) (some pos) acc (by omega) (by omega) (by simp)]
          simp only
          rw [sn pos (Nat.le_refl _)]
          have : spanL s (pos, pos) = [] := by simp [spanL]
          rw [this]
        | some a =>
          simp only at h3 ⊢
          rw [ih (pos + 1) (some a) acc (by omega) (by omega) (by simp only; omega)]
          simp only
          rw [sn a (by omega)]
    · have e : pos = s.size := by omega
      subst e
      have ed : s.data.toList.drop s.size = [] := List.drop_of_length_le (by simp)
      rw [Lib.spansFromP_end _ _ _ _ _ _ hp, ed]
      cases st with
      | none => simp [Lib.closeSpans, cutG, fullP]
      | some a =>
        have hne : spanL s (a, s.size) ≠ [] := by
          intro e
          have := congrArg List.length e
          simp [spanL] at this
          simp only at h3
          omega
        simp only [Lib.closeSpans, cutG, List.map_append, List.map_cons, List.map_nil]
        rw [fullP_cons _ _ hne]; rfl
theorem fields_blank (s : ByteArray) (ha : ∀ (i : Nat) (h : i < s.size), s[i].toNat < 128) : Lib.goFieldsP blank s = (fullP (cutG 32 [] s.data.toList)).map fun p => (⟨p.toArray⟩ : ByteArray) := by
  have h := spans_blank s ha s.size 0 none [] (by omega) (Nat.zero_le _) trivial
  simp only [List.map_nil, List.nil_append, List.drop_zero] at h
  unfold Lib.goFieldsP Lib.spansOfP
  rw [← h, List.map_map]
  apply List.map_congr_left
  intro x _
  exact spanT_eq s x
theorem tcut_len (c : UInt8) : ∀ (l cur : List UInt8), (cutG c cur l).length ≤ l.length + 1
  | [], cur => by simp [cutG]
  | x :: l, cur => by
    rw [cutG]
    split
    · have := tcut_len c l []
      simp only [List.length_cons]
      omega
    · have := tcut_len c l (cur ++ [x])
      simp only [List.length_cons]
      omega
def tagN : ByteArray := ⟨#[115, 117, 114, 114, 111, 103, 97, 116, 101, 45, 107, 101, 121]⟩
theorem tagS_low : lowS ⟨#[115, 117, 114, 114, 111, 103, 97, 116, 101, 45, 107, 101, 121]⟩ = tagN := by decide +kernel
theorem tagI_low : lowS ⟨#[83, 117, 114, 114, 111, 103, 97, 116, 101, 45, 75, 101, 121]⟩ = tagN := by decide +kernel
theorem tagI_word : wordS ⟨#[83, 117, 114, 114, 111, 103, 97, 116, 101, 45, 75, 101, 121]⟩ = true := by decide +kernel
/-- What stands between the blanks of a text. -/
def tagP (t : ByteArray) : List (List UInt8) := fullP (cutG 32 [] t.data.toList)
theorem tagP_len (t : ByteArray) : (tagP t).length ≤ t.size + 1 := by
  have h1 : (tagP t).length ≤ (cutG 32 [] t.data.toList).length := List.length_filter_le _ _
  have h2 := tcut_len 32 t.data.toList []
  have h3 : t.data.toList.length = t.size := by simp
  omega
def tagsL (l : List Hdr) : List ByteArray := (tagP (underT tagN l)).map hmk
def tagsC (l : List Hdr) : Int := if headsC l = 0 then (if 10 < (tagsL l).length then 2 else 0) else headsC l
def tagsR (l : List Hdr) : List ByteArray := if headsC l = 0 then (if 10 < (tagsL l).length then [] else tagsL l) else []
theorem tags_bad {l : List Hdr} (h : ¬ headsC l = 0) : tagsC l = headsC l ∧ tagsR l = [] := by rw [tagsC, tagsR, if_neg h, if_neg h]; exact ⟨rfl, rfl⟩
theorem tags_many {l : List Hdr} (h : headsC l = 0) (h2 : 10 < (tagsL l).length) : tagsC l = 2 ∧ tagsR l = [] := by rw [tagsC, tagsR, if_pos h, if_pos h, if_pos h2, if_pos h2]; exact ⟨rfl, rfl⟩
theorem tags_ok {l : List Hdr} (h : headsC l = 0) (h2 : ¬ 10 < (tagsL l).length) : tagsC l = 0 ∧ tagsR l = tagsL l := by rw [tagsC, tagsR, if_pos h, if_pos h, if_neg h2, if_neg h2]; exact ⟨rfl, rfl⟩
theorem tagsR_len (l : List Hdr) : (tagsR l).length ≤ 10 := by
  rw [tagsR]
  split
  · split
    · simp
    · omega
  · simp
theorem plain_lt {c : UInt8} (h : plainI (c.toNat : Int) = true) : c.toNat < 128 := by
  simp only [plainI, Bool.or_eq_true, Bool.and_eq_true, decide_eq_true_eq, beq_iff_eq] at h
  omega
theorem tail_ascii : ∀ (r : List (List UInt8)), (∀ v ∈ r, ∀ c ∈ v, c.toNat < 128) → ∀ c ∈ Lib.joinTail [44, 32] r, c.toNat < 128
  | [], _, c, hc => by simp [Lib.joinTail] at hc
  | x :: r, h, c, hc => by
    have e : Lib.joinTail [44, 32] (x :: r) = 44 :: 32 :: (x ++ Lib.joinTail [44, 32] r) := by simp [Lib.joinTail]
    rw [e] at hc
    simp only [List.mem_cons, List.mem_append] at hc
    rcases hc with rfl | rfl | hc | hc
    · decide
    · decide
    · exact h x (List.mem_cons_self ..) c hc
    · exact tail_ascii r (fun v hv => h v (List.mem_cons_of_mem _ hv)) c hc
theorem under_ascii {x : ByteArray} {l : List Hdr} (h0 : headsC l = 0) : ∀ (i : Nat) (h : i < (underT x l).size), (underT x l)[i].toNat < 128 := by
  intro i hi
  have hv : ∀ v ∈ (valsOf x l).map (·.data.toList), ∀ c ∈ v, c.toNat < 128 := by
    intro v hv c hc
    obtain ⟨t, ht, rfl⟩ := List.mem_map.1 hv
    obtain ⟨r, hr, rfl⟩ := List.mem_map.1 ht
    obtain ⟨k, hk⟩ := List.getElem?_of_mem (List.mem_filter.1 hr).1
    have hp := (faultH_zero ((headsC_zero h0).2 k r hk)).2.2.1
    exact plain_lt (List.all_eq_true.1 hp c hc)
  have hall : ∀ c ∈ hjoinL (valsOf x l), c.toNat < 128 := by
    unfold hjoinL
    cases hc : (valsOf x l).map (·.data.toList) with
    | nil => intro c h; rw [Lib.join_nil] at h; cases h
    | cons y r =>
      rw [hc] at hv
      intro c h
      rw [Lib.join_cons] at h
      rcases List.mem_append.1 h with h | h
      · exact hv y (List.mem_cons_self ..) c h
      · exact tail_ascii r (fun v hv' => hv v (List.mem_cons_of_mem _ hv')) c h
  have hi' : i < (hjoinL (valsOf x l)).length := by
    have : (underT x l).size = (hjoinL (valsOf x l)).length := by show (hjoinL (valsOf x l)).toArray.size = _; rw [List.size_toArray]
    omega
  refine hall _ ?_
  show (hjoinL (valsOf x l))[i] ∈ hjoinL (valsOf x l)
  exact List.getElem_mem _
end Go.Proofs.YtmnblligifgcjaaGreatDoor
/-
  IsTagged, on both sides, and its law.
-/
namespace Go.Proofs.YtmnblligifgcjaaGreatDoor
open Go.ChangeShapes Go.WideShapes Go.ChangeAt Go.RowKit
theorem tag_ne {a b : ByteArray} (h : a ≠ b) : (a.toList == b.toList) = false := by
  rw [beq_eq_false_iff_ne]
  intro e
  rw [ByteArray.toList_eq, ByteArray.toList_eq] at e
  exact h (ByteArray.ext (Array.ext' e))
def tagB (l : List ByteArray) (t : ByteArray) : Bool := l.any fun x => decide (x = t)
theorem tagB_yes {l : List ByteArray} {k : Nat} {t : ByteArray} (h : l[k]? = some t) : tagB l t = true :=
  List.any_eq_true.2 ⟨t, List.mem_of_getElem? h, by simp⟩
theorem tagB_no {l : List ByteArray} {t : ByteArray} (h : ∀ (j : Nat) x, l[j]? = some x → x ≠ t) : tagB l t = false := by
  rw [← Bool.not_eq_true]
  intro e
  obtain ⟨x, hx, hd⟩ := List.any_eq_true.1 e
  obtain ⟨j, hj⟩ := List.getElem?_of_mem hx
  exact h j x hj (by simpa using hd)
theorem tret_bool {a b : Bool} (h : a = b) : Ending.returned (.bool a) = Ending.returned (.bool b) := by rw [h]
theorem tret_int {a b : Int} (h : a = b) : Ending.returned (.int .i64 a) = Ending.returned (.int .i64 b) := by rw [h]
/-- Where a text stands first, or -1. -/
def TagAt (l : List ByteArray) (t : ByteArray) (e : Ending) : Prop := ∃ i : Int, e = .returned (.int .i64 i) ∧ -1 ≤ i ∧ decide (0 ≤ i) = tagB l t
set_option maxHeartbeats 2000000 in
theorem slicesIndex_any (w : World) (a : Option Addr) (cap : Nat) (l : List ByteArray) (t : ByteArray) (hl : l.length ≤ 1048576) (hi : TIn w a l) :
    Calls Tryz.prog 61 #[.slice a l.length cap, .string t] w fun e w' => TagAt l t e ∧ w' = w := by
  have HI : Hid (TIn w a l) := hi
  clear hi
  generalize hnn : l.length = n at *
  have HN : Hid (l.length = n) := hnn
  clear hnn
  go_enter Tryz.func61, Tryz.ntmps61
  go_wp2_with fail
  go_loopw [8] (fun i wr => ∃ k : Nat, k ≤ n ∧ i = .int .i64 k ∧ (∀ (j : Nat) x, j < k → l[j]? = some x → x ≠ t) ∧ wr = w) (fun i _ => n - (intOf i).toNat)
  case atStart => exact ⟨0, Nat.zero_le _, rfl, fun j x hj _ => absurd hj (by omega), rfl⟩
  case round =>
    obtain ⟨k, hk, rfl, hw, rfl⟩ := hrel
    have HW : Hid (∀ (j : Nat) x, j < k → l[j]? = some x → x ≠ t) := hw
    clear hw
    by_cases hlt : k < n
    · obtain ⟨x, hx⟩ : ∃ r, l[k]? = some r := ⟨l[k]'(by have := HN.out; omega), List.getElem?_eq_getElem _⟩
      rcases HI.out with h | ⟨b, off, rfl, hat⟩
      · subst h; simp at hx
      have p1 := hat k x hx
      have HX : Hid (l[k]? = some x) := hx
      have gk : (k : Int) < n := by omega
      clear hx hat
      by_cases e : x = t
      · subst e
        have HE : Hid (tagB l x = true) := tagB_yes HX.out
        have hbe : (x.toList == x.toList) = true := by simp
        go_wp2_with fail
        go_ret
        exact ⟨⟨_, rfl, by omega, by rw [HE.out]; simp⟩, rfl⟩
      · have hbe := tag_ne (Ne.symm e)
        have HXE : Hid (x ≠ t) := e
        clear e
        go_wp2_with fail
        go_roundw
        case rel =>
          refine ⟨k + 1, by omega, by go_num, fun j y hj hy => ?_, by trivial⟩
          by_cases e : j = k
          · subst e
            rw [HX.out] at hy
            obtain rfl := Option.some.inj hy
            exact HXE.out
          · exact HW.out j y (by omega) hy
        case measure => simp [intOf]; omega
    · have HE : Hid (tagB l t = false) := tagB_no fun j x hx => HW.out j x (by have := (List.getElem?_eq_some_iff.1 hx).1; have := HN.out; omega) hx
      go_wp2_with fail
      go_ret
      exact ⟨⟨-1, rfl, by omega, by rw [HE.out]; simp⟩, rfl⟩
set_option maxHeartbeats 1000000 in
theorem implTagged_any (w : World) (a : Option Addr) (cap : Nat) (l : List ByteArray) (t : ByteArray) (hl : l.length ≤ 1048576) (hi : TIn w a l) :
    Calls Tryz.prog 13 #[.slice a l.length cap, .string t] w fun e w' => e = .returned (.bool (tagB l t)) ∧ w' = w := by
  have HI : Hid (Calls Tryz.prog 61 #[.slice a l.length cap, .string t] w fun e w' => TagAt l t e ∧ w' = w) := slicesIndex_any w a cap l t hl hi
  have HC : Hid (Calls Tryz.prog 34 #[.slice a l.length cap, .string t] w fun e w' => e = .returned (.bool (tagB l t)) ∧ w' = w) := by
    clear hi
    generalize l.length = n at *
    show Calls _ _ _ _ _
    go_enter Tryz.func34, Tryz.ntmps34
    go_wp2_with fail
    refine HI.out.mono ?_
    rintro e w1 ⟨⟨i, rfl, _, hi⟩, rfl⟩
    have HD : Hid (decide (0 ≤ i) = tagB l t) := hi
    clear hi
    go_wp2_with fail
    go_ret
    exact ⟨tret_bool HD.out, rfl⟩
  clear hi HI
  generalize l.length = n at *
  go_enter Tryz.func13, Tryz.ntmps13
  go_wp2_with fail
  refine HC.out.mono ?_
  rintro e w1 ⟨rfl, rfl⟩
  go_wp2_with fail
  go_ret
  exact ⟨rfl, rfl⟩
end Go.Proofs.YtmnblligifgcjaaGreatDoor
/-
  Head lines that were packed are read back, plainly. No Go in sight.
-/
namespace Go.Proofs.YtmnblligifgcjaaGreatDoor
theorem trim_space {v : List UInt8} (h : Lib.trimS v [32, 9] = v) : Lib.trimS (32 :: v) [32, 9] = v := by
  unfold Lib.trimS Lib.trimLeftS Lib.trimRightS at *
  have p32 : ([32, 9] : List UInt8).contains 32 = true := by decide
  generalize hp : (fun x => ([32, 9] : List UInt8).contains x) = p at *
  have q32 : p 32 = true := by rw [← hp]; exact p32
  have l1 : ((v.reverse.dropWhile p).reverse.dropWhile p).length ≤ (v.reverse.dropWhile p).reverse.length := (List.dropWhile_sublist p).length_le
  have l2 : (v.reverse.dropWhile p).length ≤ v.reverse.length := (List.dropWhile_sublist p).length_le
  rw [h] at l1
  rw [List.length_reverse] at l1
  have e1 : v.reverse.dropWhile p = v.reverse := (List.dropWhile_sublist p).eq_of_length (by rw [List.length_reverse] at l2 ⊢; omega)
  rw [e1, List.reverse_reverse] at h
  cases hv : v.reverse with
  | nil =>
    have : v = [] := by simpa using hv
    subst this
    simp [q32]
  | cons x t =>
    rw [hv] at e1
    have hx : p x = false := by
      cases hpx : p x with
      | false => rfl
      | true =>
        rw [List.dropWhile_cons_of_pos hpx] at e1
        have := (List.dropWhile_sublist p (l := t)).length_le
        rw [e1, List.length_cons] at this
        omega
    have e2 : (32 :: v).reverse.dropWhile p = (32 :: v).reverse := by
      rw [List.reverse_cons, hv, List.cons_append, List.dropWhile_cons_of_neg (by rw [hx]; decide)]
    rw [e2, List.reverse_reverse, List.dropWhile_cons_of_pos q32]
    exact h
theorem crAt_line : ∀ (b r : List UInt8), (∀ c ∈ b, c ≠ 13) → crAt (b ++ 13 :: 10 :: r) = b.length
  | [], r, _ => by simp [crAt]
  | c :: b, r, h => by
    have ih := crAt_line b r (fun c hc => h c (by simp [hc]))
    obtain ⟨d, t, e⟩ : ∃ d t, b ++ 13 :: 10 :: r = d :: t := by cases b <;> simp
    rw [List.cons_append, e, crAt, if_neg (fun x => h c (by simp) x.1), ← e, ih]
    simp only [List.length_cons]; omega
theorem clAt_line : ∀ (n t : List UInt8), (∀ c ∈ n, c ≠ 58) → clAt (n ++ 58 :: t) = n.length
  | [], t, _ => by simp [clAt]
  | c :: n, t, h => by
    have ih := clAt_line n t (fun c hc => h c (by simp [hc]))
    rw [List.cons_append, clAt, if_neg (h c (by simp)), ih]
    simp only [List.length_cons]; omega
theorem word_mem {s : ByteArray} (h : wordS s = true) : ∀ c ∈ s.data.toList, c ≠ 58 ∧ c ≠ 13 := by
  have h2 : allW s.data.toList = true := by
    simp only [wordS, Bool.and_eq_true] at h
    exact h.2
  intro c hc
  have := List.all_eq_true.1 h2 c hc
  refine ⟨fun e => ?_, fun e => ?_⟩ <;> subst e <;> revert this <;> decide +kernel
theorem plain_mem {l : List UInt8} (h : plainL l = true) : ∀ c ∈ l, c ≠ 13 := by
  intro c hc e
  have := List.all_eq_true.1 h c hc
  subst e
  revert this
  decide
theorem lineOf_back {r : Hdr} (h : faultH r = 0) : lineOf (r.name.data.toList ++ 58 :: 32 :: r.value.data.toList) = r := by
  obtain ⟨hw, _, _, ht⟩ := faultH_zero h
  have hc := clAt_line r.name.data.toList (32 :: r.value.data.toList) (fun c hc => (word_mem hw c hc).1)
  unfold lineOf
  rw [hc, List.take_left]
  have e2 : (r.name.data.toList ++ 58 :: 32 :: r.value.data.toList).drop (r.name.data.toList.length + 1) = 32 :: r.value.data.toList := by
    rw [← List.drop_drop, List.drop_left]; rfl
  rw [e2]
  obtain ⟨n, v⟩ := r
  simp only at *
  have hn : hmk n.data.toList = n := (hof_list rfl).symm
  have hvv : trimT (hmk (32 :: v.data.toList)) = v := by
    have hv : Lib.trimS v.data.toList [32, 9] = v.data.toList := by
      have := congrArg (fun b : ByteArray => b.data.toList) ht
      simpa [trimT] using this
    unfold trimT
    rw [hmk_list, trim_space hv]
  rw [hn, hvv]
theorem read_pack : ∀ l : List Hdr, (∀ r ∈ l, faultH r = 0) → readT (packL l) = some l
  | [], _ => readT_nil
  | r :: l, h => by
    have ih := read_pack l (fun q hq => h q (by simp [hq]))
    have h0 := h r (by simp)
    obtain ⟨hw, hz, hp, ht⟩ := faultH_zero h0
    have hb := lineOf_back h0
    have hcl := clAt_line r.name.data.toList (32 :: r.value.data.toList) (fun c hc => (word_mem hw c hc).1)
    have e : packL (r :: l) = (r.name.data.toList ++ 58 :: 32 :: r.value.data.toList) ++ 13 :: 10 :: packL l := by simp [packL, lineL]
    have h13 : ∀ c ∈ r.name.data.toList ++ 58 :: 32 :: r.value.data.toList, c ≠ 13 := by
      intro c hc
      simp only [List.mem_append, List.mem_cons] at hc
      rcases hc with hc | rfl | rfl | hc
      · exact (word_mem hw c hc).2
      · decide
      · decide
      · exact plain_mem hp c hc
    have hlt : clAt (r.name.data.toList ++ 58 :: 32 :: r.value.data.toList) < (r.name.data.toList ++ 58 :: 32 :: r.value.data.toList).length := by rw [hcl]; simp only [List.length_append, List.length_cons]; omega
    rw [e]
    generalize r.name.data.toList ++ 58 :: 32 :: r.value.data.toList = b at *
    have hc := crAt_line b (packL l) h13
    have t1 : (b ++ 13 :: 10 :: packL l).take b.length = b := List.take_left
    have t2 : (b ++ 13 :: 10 :: packL l).drop (b.length + 2) = packL l := by rw [← List.drop_drop, List.drop_left]; rfl
    rw [readT_take (by rw [hc]; simp only [List.length_append, List.length_cons]; omega) (by rw [hc, t1]; exact hlt), hc, t1, t2, ih, hb]
    rfl
theorem packL_len4 : ∀ l : List Hdr, (∀ r ∈ l, faultH r = 0) → (packL l).length ≤ l.length * 268
  | [], _ => by simp [packL]
  | r :: l, h => by
    have ih := packL_len4 l (fun q hq => h q (by simp [hq]))
    have := lineL_len (h r (by simp))
    have e : packL (r :: l) = lineL r ++ packL l := by simp [packL]
    rw [e, List.length_append, List.length_cons]
    omega
theorem heads_mem {l : List Hdr} (h : headsC l = 0) : l.length ≤ 20 ∧ ∀ r ∈ l, faultH r = 0 := by
  obtain ⟨h1, h2⟩ := headsC_zero h
  refine ⟨h1, fun r hr => ?_⟩
  obtain ⟨i, hi⟩ := List.mem_iff_getElem?.1 hr
  exact h2 i r hi
theorem heads_of {l : List Hdr} (h1 : l.length ≤ 20) (h2 : ∀ r ∈ l, faultH r = 0) : headsC l = 0 := by rw [headsC_few (by omega)]; exact faultHL_of l h2
theorem pack_read {l : List Hdr} (h : headsC l = 0) : readHC (packT l) = 0 ∧ readHL (packT l) = l := by
  obtain ⟨h1, h2⟩ := heads_mem h
  have hl := packL_len4 l h2
  have hr := read_pack l h2
  rw [packT_ok h]
  exact readH_ok (by show ¬ 6000 < (packL l).toArray.size; rw [List.size_toArray]; omega) hr h
theorem read_heads {s : ByteArray} (h : readHC s = 0) : headsC (readHL s) = 0 := by
  by_cases c : 6000 < s.size
  · rw [(readH_long c).1] at h; omega
  · cases hr : readT s.data.toList with
    | none => rw [(readH_bad c hr).1] at h; omega
    | some L =>
      by_cases hL : headsC L = 0
      · rw [(readH_ok c hr hL).2]; exact hL
      · rw [(readH_fault c hr hL).1] at h; exact absurd h hL
end Go.Proofs.YtmnblligifgcjaaGreatDoor
/-
  slices.Insert of one head line into lines of the call's own.
-/
namespace Go.Proofs.YtmnblligifgcjaaGreatDoor
open Go.ChangeShapes Go.WideShapes Go.ChangeAt Go.RowKit Go.Sort
theorem hdr_size2 : (Tryz.prog.info? 51).map (·.size) = some 2 := by kernel_rfl
theorem hdr_mixed : Tryz.prog.follows .mixedOrders = true := by kernel_rfl
/-- copy between slices of two cells an element, into a row. -/
theorem run_copy_row2 (w : World) (ty : TypeId) (g o dLen dCap : Nat) (a : Addr) (sLen sCap n : Nat) (cur : Array Value) (t : TypeId) (cs : List Value)
    (hg : w.heap[g]? = some (.cells cur t (0, 0))) (hn : n = Nat.min sLen dLen) (hcl : cs.length = n * 2)
    (hsrc : ∀ j v, cs[j]? = some v → w.cell? (a.add j) = some v) (hfit : o + cs.length ≤ cur.size) (h1 : ∀ v ∈ cs, v.oneCell' = true) :
    (Builtin.copy_ #[24, 24] ty #[.slice (some ⟨g, o, none⟩) dLen dCap, .slice (some a) sLen sCap]).run Tryz.prog w =
      .ok (goInt n) (w.setRow g (cur.toList.take o ++ cs ++ cur.toList.drop (o + cs.length)).toArray) := by
  have hl := run_loadCells_list (P := Tryz.prog) w a cs hsrc
  have hst := run_storeCells_at Tryz.prog g o t cs 0 cur w hg (by simpa using hfit) h1
  have hu := Tryz.underlying24
  cases hq : Tryz.prog.info? 51 with
  | none => have := hdr_size2; simp [hq] at this
  | some i =>
    have hi : i.size = 2 := by have := hdr_size2; simpa [hq] using this
    rw [hcl] at hl
    simp [Builtin.copy_, run_underlying hu, Builtin.lenOf, Builtin.firstCells, sizeOf, typeInfo, hq, hi, ← hn, hl, hst]
theorem wp_copy_runH (w : World) {o : Oper} {a : Act} {K : Act → World → Prop} {Q : Exit → Act → World → Prop} (d s : Operand) (t t' : TypeId)
    (ho : o.op = .call { callee := .builtin .copy, args := #[d, s], argTypes := #[t, t'] }) (v u : Value) (hd : a.eval d = v) (hs : a.eval s = u) {v' : Value} {w' : World}
    (hr : (Builtin.copy_ #[t, t'] o.type #[v, u]).run Tryz.prog w = .ok v' w') (h : K (a.put o.dst v') w') : o.wp Tryz.prog a w K Q := by
  unfold Oper.wp execOp
  simp only [ho, resolve, invoke, builtin, Sem.run_bind, Sem.run_pure, Result.andThen_ok, List.map_toArray, List.map_cons, List.map_nil, hd, hs, hr]
  exact h
theorem wpList_copy_runH (w : World) {ops : Array Oper} {rest : List Oper} {o : Oper} {a : Act} {Q : Exit → Act → World → Prop} (hgd : o.guard = none) (d s : Operand) (t t' : TypeId)
    (ho : o.op = .call { callee := .builtin .copy, args := #[d, s], argTypes := #[t, t'] }) (v u : Value) (hd : a.eval d = v) (hs : a.eval s = u) {v' : Value} {w' : World}
    (hr : (Builtin.copy_ #[t, t'] o.type #[v, u]).run Tryz.prog w = .ok v' w') (h : wpList Tryz.prog ops Q rest (a.put o.dst v') w') : wpList Tryz.prog ops Q (o :: rest) a w :=
  wpList_plain hgd fun _ hK => wp_copy_runH w d s t t' ho v u hd hs hr (hK _ _ h)
theorem grown_setRow (w : World) (g : Nat) (cs : Array Value) : w.grownBy (w.setRow g cs) (some g) :=
  ⟨rfl, rfl, rfl, by simp, fun i _ hi => setRow_other w g i cs (fun e => hi (by rw [e]))⟩
theorem below_setRow {base g : Nat} (w : World) (cs : Array Value) (hg : base ≤ g) (hw : base ≤ w.heap.size) : Below base w (w.setRow g cs) :=
  (Below.refl base w).grown (grown_setRow w g cs) hw (fun k hk => by cases hk; exact hg)
theorem hdrsW_one (l : List Hdr) : ∀ v ∈ hdrsW l, v.oneCell' = true := by
  intro v hv
  obtain ⟨r, _, hr⟩ := List.mem_flatMap.1 hv
  simp only [hdrW, List.mem_cons, List.not_mem_nil, or_false] at hr
  rcases hr with rfl | rfl <;> rfl
theorem hdrsW_app (l m : List Hdr) : hdrsW (l ++ m) = hdrsW l ++ hdrsW m := by simp [hdrsW]
theorem hdrsW_take (l : List Hdr) (i : Nat) (hi : i ≤ l.length) : (hdrsW l).take (i * 2) = hdrsW (l.take i) := by
  have h : hdrsW l = hdrsW (l.take i) ++ hdrsW (l.drop i) := by rw [← hdrsW_app, List.take_append_drop]
  rw [h, List.take_left' (by rw [hdrsW_len, List.length_take]; omega)]
theorem hdrsW_drop (l : List Hdr) (i : Nat) (hi : i ≤ l.length) : (hdrsW l).drop (i * 2) = hdrsW (l.drop i) := by
  have h : hdrsW l = hdrsW (l.take i) ++ hdrsW (l.drop i) := by rw [← hdrsW_app, List.take_append_drop]
  rw [h, List.drop_left' (by rw [hdrsW_len, List.length_take]; omega)]
/-- What the two copies leave, where there is room. -/
theorem rows_shift (A B T : List Value) (x y : Value) (k : Nat) (hA : A.length = k) (hT : 2 ≤ T.length) :
    ((((A ++ B ++ T).take (k + 2) ++ B ++ (A ++ B ++ T).drop (k + 2 + B.length)).take k ++ [x, y] ++ ((A ++ B ++ T).take (k + 2) ++ B ++ (A ++ B ++ T).drop (k + 2 + B.length)).drop (k + 2))) = A ++ [x, y] ++ B ++ T.drop 2 := by
  have h1 : ((A ++ B ++ T).take (k + 2)).length = k + 2 := by simp; omega
  have e1 : ((A ++ B ++ T).take (k + 2) ++ B ++ (A ++ B ++ T).drop (k + 2 + B.length)).drop (k + 2) = B ++ (A ++ B ++ T).drop (k + 2 + B.length) := by
    rw [List.append_assoc, List.drop_left' h1]
  have e2 : ((A ++ B ++ T).take (k + 2) ++ B ++ (A ++ B ++ T).drop (k + 2 + B.length)).take k = A := by
    rw [List.append_assoc, List.take_append_of_le_length (by omega), List.take_take, Nat.min_eq_left (by omega), List.append_assoc, List.take_left' hA]
  have e3 : (A ++ B ++ T).drop (k + 2 + B.length) = T.drop 2 := by
    rw [show k + 2 + B.length = (A ++ B).length + 2 from by simp; omega, List.drop_append]
    simp
  rw [e1, e2, e3]
  simp
/-- What the two copies leave in a new row. -/
theorem rows_grow (A B Z T : List Value) (x y : Value) (k : Nat) (hA : A.length = k) (hZ : Z.length = B.length + 2) :
    (((A ++ Z ++ T).take k ++ [x, y] ++ (A ++ Z ++ T).drop (k + 2)).take (k + 2) ++ B ++ ((A ++ Z ++ T).take k ++ [x, y] ++ (A ++ Z ++ T).drop (k + 2)).drop (k + 2 + B.length)) = A ++ [x, y] ++ B ++ T := by
  have e0 : (A ++ Z ++ T).take k = A := by rw [List.append_assoc, List.take_left' hA]
  have h2 : (A ++ [x, y]).length = k + 2 := by simp [hA]
  have e1 : (A ++ [x, y] ++ (A ++ Z ++ T).drop (k + 2)).take (k + 2) = A ++ [x, y] := List.take_left' h2
  have e2 : (A ++ [x, y] ++ (A ++ Z ++ T).drop (k + 2)).drop (k + 2 + B.length) = T := by
    rw [show k + 2 + B.length = (A ++ [x, y]).length + B.length from by omega, List.drop_append]
    have e3 : (A ++ [x, y]).drop ((A ++ [x, y]).length + B.length) = [] := List.drop_of_length_le (by omega)
    rw [e3, List.nil_append, show (A ++ [x, y]).length + B.length - (A ++ [x, y]).length = B.length from by omega, List.drop_drop]
    rw [show k + 2 + B.length = (A ++ Z).length from by simp; omega, List.drop_left]
  rw [e0, e1, e2]
end Go.Proofs.YtmnblligifgcjaaGreatDoor
/-
  slices.Insert of one head line: its roads.
-/
namespace Go.Proofs.YtmnblligifgcjaaGreatDoor
open Go.ChangeShapes Go.WideShapes Go.ChangeAt Go.RowKit Go.Sort
theorem wpList_append_line {ops : Array Oper} {rest : List Oper} {o : Oper} {a : Act} {Q : Exit → Act → World → Prop} (w : World) (hgd : o.guard = none) (s x : Operand)
    (ho : o.op = .call { callee := .builtin .append, args := #[s, x], argTypes := #[24, 24] }) (base : Nat) (v : Value) (l : List Hdr) (n z : ByteArray) (vb : Nat)
    (hs : a.eval s = v) (hx : a.eval x = .slice (some ⟨vb, 0, none⟩) 1 1) (hown : OwnH w base v l) (c0 : w.cell? ⟨vb, 0, none⟩ = some (.string n)) (c1 : w.cell? ⟨vb, 1, none⟩ = some (.string z)) (hl : l.length ≤ 1000000) (hbase : base ≤ w.heap.size)
    (h : ∀ v' w', OwnH w' base v' (l ++ [⟨n, z⟩]) → Below base w w' → wpList Tryz.prog ops Q rest (a.put o.dst v') w') :
    wpList Tryz.prog ops Q (o :: rest) a w := by
  obtain ⟨i0, hi, hz0, hz1, hz2⟩ := info_parts infoHeader
  refine wpList_append_own _ hgd s x 24 ho base 51 i0 (.agg #[.string ⟨#[]⟩, .string ⟨#[]⟩]) 2 32 Tryz.underlying24 hi hz0 hz1 hz2 rfl (by decide) v l.length (hdrsW l) hs hown ⟨vb, 0, none⟩ 1 1 [.string n, .string z] hx rfl ?_ ?_ ?_ ?_ ?_ ?_
  · intro j u hj
    match j, hj with
    | 0, hj => simp at hj; subst hj; simpa [Addr.add] using c0
    | 1, hj => simp at hj; subst hj; simpa [Addr.add] using c1
  · intro u hu; simp at hu; rcases hu with rfl | rfl <;> rfl
  · unfold maxLen; omega
  · omega
  · exact hbase
  · intro v' w' h1 h2 h3
    have e : hdrsW (l ++ [⟨n, z⟩]) = hdrsW l ++ [.string n, .string z] := by simp [hdrsW, hdrW]
    exact h v' w' (by unfold OwnH; rw [e, List.length_append]; exact h1) ((Below.refl base w).grown h2 hbase (fun q hq => own_geH hown q hq))
theorem hdr_mid (l : List Hdr) (i : Nat) (hn hv : ByteArray) : hdrsW (l.take i ++ [⟨hn, hv⟩] ++ l.drop i) = hdrsW (l.take i) ++ [.string hn, .string hv] ++ hdrsW (l.drop i) := by
  rw [hdrsW_app, hdrsW_app]; rfl
theorem ownH_row {w : World} {base g c : Nat} {R : Array Value} {T : List Value} {l : List Hdr} {i : Nat} {hn hv : ByteArray} (hi : i ≤ l.length) (hg : w.heap[g]? = some (.cells R 51 (0, 0))) (hbg : base ≤ g) (hc : l.length + 1 ≤ c) (hcm : c ≤ maxLen) (hs : R.size = c * 2)
    (hR : R.toList = hdrsW (l.take i) ++ [.string hn, .string hv] ++ hdrsW (l.drop i) ++ T) : OwnH w base (.slice (some ⟨g, 0, none⟩) (l.length + 1) c) (l.take i ++ [⟨hn, hv⟩] ++ l.drop i) := by
  have hl : (l.take i ++ [(⟨hn, hv⟩ : Hdr)] ++ l.drop i).length = l.length + 1 := by simp only [List.length_append, List.length_take, List.length_cons, List.length_nil, List.length_drop]; omega
  unfold OwnH
  rw [hl]
  refine ⟨by rw [hdrsW_len, hl], .inr ⟨g, c, R, rfl, hbg, hg, hc, hcm, hs, ?_⟩⟩
  rw [hR, ← hdr_mid, List.take_left' (by rw [hdrsW_len, hl])]
end Go.Proofs.YtmnblligifgcjaaGreatDoor
/-
  slices.Insert of one head line into lines that have no room.
-/
namespace Go.Proofs.YtmnblligifgcjaaGreatDoor
open Go.ChangeShapes Go.WideShapes Go.ChangeAt Go.RowKit Go.Sort
theorem newRow_at (w : World) (R : Array Value) (t : TypeId) : (w.drew.alloc (.cells R t)).heap[w.heap.size]? = some (.cells R t (0, 0)) := (MapKept.heap_alloc w.drew _).1
theorem newRow_old (w : World) (R : Array Value) (t : TypeId) (k : Nat) (h : k < w.heap.size) : (w.drew.alloc (.cells R t)).heap[k]? = w.heap[k]? := Below.heap_alloc w.drew _ k h
end Go.Proofs.YtmnblligifgcjaaGreatDoor
/-
  What the model's SetHeader answers; slices.Insert, whole.
-/
namespace Go.Proofs.YtmnblligifgcjaaGreatDoor
open Go.ChangeShapes Go.WideShapes Go.ChangeAt Go.RowKit Go.Sort
theorem setGo_other {h r : Hdr} {bd : Bool} {l : List Hdr} (he : ¬ lowS r.name = lowS h.name) : setGo h bd (r :: l) = r :: setGo h bd l := by rw [setGo, if_neg he]
theorem setGo_put {h r : Hdr} {l : List Hdr} (he : lowS r.name = lowS h.name) : setGo h false (r :: l) = h :: setGo h true l := by rw [setGo, if_pos he]; rfl
theorem setGo_skip {h r : Hdr} {l : List Hdr} (he : lowS r.name = lowS h.name) : setGo h true (r :: l) = setGo h true l := by rw [setGo, if_pos he]; rfl
theorem setGo_end (h : Hdr) : setGo h true [] = [] ∧ setGo h false [] = [h] := ⟨rfl, rfl⟩
theorem box_room {w w1 : World} {n v : ByteArray} {t : TypeId} (hb : Below (w.heap.size + 1) (w.alloc (.cells #[.string n, .string v] t)) w1) :
    w1.cell? ⟨w.heap.size, 0, none⟩ = some (.string n) ∧ w1.cell? ⟨w.heap.size, 1, none⟩ = some (.string v) := by
  exact ⟨by rw [hb.cell (p := ⟨w.heap.size, 0, none⟩) (Nat.lt_succ_self _)]; simp, by rw [hb.cell (p := ⟨w.heap.size, 1, none⟩) (Nat.lt_succ_self _)]; simp⟩
end Go.Proofs.YtmnblligifgcjaaGreatDoor
/-
  What SetHeader and its model answer.
-/
namespace Go.Proofs.YtmnblligifgcjaaGreatDoor
open Go.ChangeShapes Go.WideShapes Go.ChangeAt Go.RowKit Go.Sort
theorem wpAny_seq2 {P : Program} {md : Region.Mode} {ops : Array Oper} {Q : Exit → Act → World → Prop} {k : Nat} {o1 o2 : Oper} {listed : Array Bool} {a : Act} {w : World} (h1 : ops[k]? = some o1) (h2 : ops[k + 1]? = some o2) (h4 : ops.size = k + 2)
    (hB : Region.seqB md ops 2 k listed = true) (h : wpList P ops Q [o1, o2] a w) : wpAny P md ops Q 2 listed a w :=
  wpAny_of_seq [o1, o2] k listed a w (fun j => by
    match j with
    | 0 => simpa using h1.symm
    | 1 => simpa using h2.symm
    | j + 2 => rw [Array.getElem?_eq_none (by omega)]; simp) hB h
theorem set_ask {l : List Hdr} {h : Hdr} (h0 : askC l h.name ≠ 0) : setC l h = askC l h.name ∧ setL l h = [] := by
  have e : setC l h = askC l h.name := by unfold setC; rw [if_neg h0]
  exact ⟨e, by unfold setL; rw [if_neg (by rw [e]; exact h0)]⟩
theorem set_line {l : List Hdr} {h : Hdr} (h0 : askC l h.name = 0) (h1 : faultH h ≠ 0) : setC l h = faultH h ∧ setL l h = [] := by
  have e : setC l h = faultH h := by unfold setC; rw [if_pos h0, if_neg h1]
  exact ⟨e, by unfold setL; rw [if_neg (by rw [e]; exact h1)]⟩
theorem set_many {l : List Hdr} {h : Hdr} (h0 : askC l h.name = 0) (h1 : faultH h = 0) (h2 : 20 < (setGo h false l).length) : setC l h = 2 ∧ setL l h = [] := by
  have e : setC l h = 2 := by unfold setC; rw [if_pos h0, if_pos h1, if_pos h2]
  exact ⟨e, by unfold setL; rw [if_neg (by rw [e]; decide)]⟩
theorem set_ok {l : List Hdr} {h : Hdr} (h0 : askC l h.name = 0) (h1 : faultH h = 0) (h2 : ¬ 20 < (setGo h false l).length) : setC l h = 0 ∧ setL l h = setGo h false l := by
  have e : setC l h = 0 := by unfold setC; rw [if_pos h0, if_pos h1, if_neg h2]
  exact ⟨e, by unfold setL; rw [if_pos e]⟩
theorem setL_len (l : List Hdr) (h : Hdr) : (setL l h).length ≤ 20 := by
  by_cases h0 : askC l h.name = 0
  · by_cases h1 : faultH h = 0
    · by_cases h2 : 20 < (setGo h false l).length
      · rw [(set_many h0 h1 h2).2]; exact Nat.zero_le _
      · rw [(set_ok h0 h1 h2).2]; omega
    · rw [(set_line h0 h1).2]; exact Nat.zero_le _
  · rw [(set_ask h0).2]; exact Nat.zero_le _
theorem first_le {x : ByteArray} : ∀ {l : List Hdr} {i : Nat}, firstAt x l = some i → i ≤ (dropH x l).length
  | [], i, h => by simp [firstAt] at h
  | r :: l, i, h => by
    by_cases c : lowS r.name = x
    · rw [firstAt, if_pos c] at h; obtain rfl := Option.some.inj h; exact Nat.zero_le _
    · rw [firstAt, if_neg c] at h
      obtain ⟨j, hj, rfl⟩ := Option.map_eq_some_iff.1 h
      have := first_le hj
      simp only [dropH] at this
      simp only [dropH, List.filter_cons, c, not_false_eq_true, decide_true, if_true, List.length_cons]
      omega
theorem ownH_lt {w : World} {base : Nat} {v : Value} {l : List Hdr} (h : OwnH w base v l) : ∀ g, v.ownBlock = some g → g < w.heap.size := fun g hg => (World.ownsRow.lt h g hg).2
end Go.Proofs.YtmnblligifgcjaaGreatDoor
/-
  What SetHeader answers.
-/
namespace Go.Proofs.YtmnblligifgcjaaGreatDoor
open Go.ChangeShapes Go.WideShapes Go.ChangeAt Go.RowKit Go.Sort
end Go.Proofs.YtmnblligifgcjaaGreatDoor
/-
  What SetHeader answers, at every argument.
-/
namespace Go.Proofs.YtmnblligifgcjaaGreatDoor
open Go.ChangeShapes Go.WideShapes Go.ChangeAt Go.RowKit Go.Sort
end Go.Proofs.YtmnblligifgcjaaGreatDoor
/-
  What the model's SameHeaders and slices.Equal over head lines answer.
-/
namespace Go.Proofs.YtmnblligifgcjaaGreatDoor
open Go.ChangeShapes Go.WideShapes Go.ChangeAt Go.RowKit Go.Sort
def sameH (x y : Hdr) : Bool := (x.name.toList == y.name.toList) && (x.value.toList == y.value.toList)
def sameHs : List Hdr → List Hdr → Bool
  | [], [] => true
  | x :: l, y :: m => sameH x y && sameHs l m
  | _, _ => false
theorem guardHeader (op : BinOp) (a b : Operand) (x y : Array Value) (w : World) : (eqGuard op 51 a b (.agg x) (.agg y)).run Tryz.prog w = .ok () w := run_eqGuard_agg w op 51 a b x y (by kernel_rfl)
theorem neqHeader (x y : Hdr) (w : World) : (binOp .neq 51 (.agg #[.string x.name, .string x.value]) (.agg #[.string y.name, .string y.value])).run Tryz.prog w = .ok (.bool (!sameH x y)) w := by
  have u9 := Tryz.underlying9
  have a9 := Tryz.isAgg9
  have z9 := Tryz.sizeOf9
  have hS : Tryz.prog.underlying 51 = some (.struct (Tryz.prog.fieldsOf 51)) := by kernel_rfl
  have hp : Tryz.prog.stoodInHeld 51 = false := by kernel_rfl
  obtain ⟨n1, v1⟩ := x
  obtain ⟨n2, v2⟩ := y
  simp only [sameH]
  rw [run_neq_struct, show (10000 : Nat) = 9999 + 1 from rfl, run_equalIn_agg w 9999 51 _ _ hS hp]
  simp only [Program.fieldsOf, Tryz.underlying51]
  go_simp
  by_cases e1 : n1.toList = n2.toList <;> by_cases e3 : v1.toList = v2.toList <;> simp [e1, e3]
end Go.Proofs.YtmnblligifgcjaaGreatDoor
/-
  What is read back, set and dropped, plainly. No Go in sight.
-/
namespace Go.Proofs.YtmnblligifgcjaaGreatDoor
theorem drop_heads {l : List Hdr} {x : ByteArray} (h : headsC l = 0) : headsC (dropH x l) = 0 := by
  obtain ⟨h1, h2⟩ := heads_mem h
  exact heads_of (Nat.le_trans (dropH_len x l) h1) fun r hr => h2 r (List.mem_filter.1 hr).1
theorem vals_dropped (x : ByteArray) (l : List Hdr) : valsOf x (dropH x l) = [] := by
  unfold valsOf dropH
  rw [List.filter_filter, List.map_eq_nil_iff, List.filter_eq_nil_iff]
  intro r _
  simp
theorem drop_join {l : List Hdr} {name : ByteArray} (h : askC l name = 0) : joinC (dropL l name) name = 4 := by
  obtain ⟨h1, h2⟩ := askC_zero h
  have e : dropL l name = dropH (lowS name) l := by unfold dropL; rw [if_pos h]
  rw [e]
  exact (join_none (askC_word (drop_heads h1) h2) (vals_dropped _ _)).1
theorem set_mem (h : Hdr) : ∀ (bd : Bool) (l : List Hdr), ∀ r ∈ setGo h bd l, r = h ∨ r ∈ l
  | true, [], r, hr => by simp [setGo] at hr
  | false, [], r, hr => by simp [setGo] at hr; exact .inl hr
  | bd, y :: l, r, hr => by
    by_cases c : lowS y.name = lowS h.name
    · cases bd
      · rw [setGo_put c] at hr
        rcases List.mem_cons.1 hr with rfl | hr
        · exact .inl rfl
        · rcases set_mem h true l r hr with h1 | h1
          · exact .inl h1
          · exact .inr (by simp [h1])
      · rw [setGo_skip c] at hr
        rcases set_mem h true l r hr with h1 | h1
        · exact .inl h1
        · exact .inr (by simp [h1])
    · rw [setGo_other c] at hr
      rcases List.mem_cons.1 hr with rfl | hr
      · exact .inr (by simp)
      · rcases set_mem h bd l r hr with h1 | h1
        · exact .inl h1
        · exact .inr (by simp [h1])
theorem set_vals (h : Hdr) : ∀ l : List Hdr, valsOf (lowS h.name) (setGo h false l) = [h.value]
  | [] => by simp [setGo, valsOf]
  | y :: l => by
    by_cases c : lowS y.name = lowS h.name
    · rw [setGo_put c, setGo_done]
      have := vals_dropped (lowS h.name) l
      unfold valsOf at this ⊢
      rw [List.filter_cons_of_pos (by simp), List.map_cons, this]
    · have := set_vals h l
      rw [setGo_other c]
      unfold valsOf at this ⊢
      rw [List.filter_cons_of_neg (by simpa using c), this]
theorem drop_twice (x : ByteArray) (l : List Hdr) : dropH x (dropH x l) = dropH x l := by
  unfold dropH
  rw [List.filter_filter]
  simp
theorem set_drop (h : Hdr) : ∀ l : List Hdr, dropH (lowS h.name) (setGo h false l) = dropH (lowS h.name) l
  | [] => by simp [setGo, dropH]
  | y :: l => by
    by_cases c : lowS y.name = lowS h.name
    · rw [setGo_put c, setGo_done]
      have := drop_twice (lowS h.name) l
      unfold dropH at this ⊢
      rw [List.filter_cons_of_neg (by simp), List.filter_cons_of_neg (by simpa using c), this]
    · have := set_drop h l
      rw [setGo_other c]
      unfold dropH at this ⊢
      rw [List.filter_cons_of_pos (by simpa using c), List.filter_cons_of_pos (by simpa using c), this]
theorem set_zero {l : List Hdr} {h : Hdr} (hc : setC l h = 0) : askC l h.name = 0 ∧ setL l h = setGo h false l ∧ headsC (setGo h false l) = 0 := by
  have e : setL l h = setGo h false l := by unfold setL; rw [if_pos hc]
  unfold setC at hc
  by_cases h0 : askC l h.name = 0
  · rw [if_pos h0] at hc
    by_cases h1 : faultH h = 0
    · rw [if_pos h1] at hc
      by_cases h2 : 20 < (setGo h false l).length
      · rw [if_pos h2] at hc; omega
      · obtain ⟨h3, _⟩ := askC_zero h0
        obtain ⟨_, h4⟩ := heads_mem h3
        refine ⟨h0, e, heads_of (by omega) fun r hr => ?_⟩
        rcases set_mem h false l r hr with rfl | hr
        · exact h1
        · exact h4 r hr
    · rw [if_neg h1] at hc; exact absurd hc h1
  · rw [if_neg h0] at hc; exact absurd hc h0
theorem set_join {l : List Hdr} {name value : ByteArray} (hc : setC l ⟨name, value⟩ = 0) : joinC (setL l ⟨name, value⟩) name = 0 ∧ joinT (setL l ⟨name, value⟩) name = value := by
  obtain ⟨h0, e, h1⟩ := set_zero hc
  obtain ⟨_, hw⟩ := askC_zero h0
  have hv := set_vals ⟨name, value⟩ l
  simp only at hv hw
  rw [e]
  obtain ⟨j1, j2⟩ := join_some (askC_word h1 hw) (by rw [hv]; simp)
  refine ⟨j1, ?_⟩
  rw [j2, hv]
  have : hjoinL [value] = value.data.toList := by simp [hjoinL, Lib.join, List.intercalate]
  rw [this]
theorem set_dropL {l : List Hdr} {name value : ByteArray} (hc : setC l ⟨name, value⟩ = 0) : askC (setL l ⟨name, value⟩) name = 0 ∧ dropL (setL l ⟨name, value⟩) name = dropL l name ∧ askC l name = 0 := by
  obtain ⟨h0, e, h1⟩ := set_zero hc
  simp only at h0
  obtain ⟨_, hw⟩ := askC_zero h0
  have ha := askC_word h1 hw
  rw [e]
  refine ⟨ha, ?_, h0⟩
  unfold dropL
  rw [if_pos ha, if_pos h0]
  exact set_drop ⟨name, value⟩ l
theorem sameH_refl (x : Hdr) : sameH x x = true := by simp [sameH]
theorem sameHs_refl : ∀ l : List Hdr, sameHs l l = true
  | [] => rfl
  | x :: l => by rw [sameHs, sameH_refl, sameHs_refl l]; rfl
theorem dropL_le (l : List Hdr) (name : ByteArray) : (dropL l name).length ≤ l.length := by
  unfold dropL
  split
  · exact dropH_len _ _
  · exact Nat.zero_le _
end Go.Proofs.YtmnblligifgcjaaGreatDoor
/-
  What the model's l5Key answers.
-/
namespace Go.Proofs.YtmnblligifgcjaaGreatDoor
open Go.ChangeShapes Go.WideShapes Go.ChangeAt Go.RowKit
/-- How many bytes lie ahead of the first '?'. -/
def qAt : List UInt8 → Nat
  | [] => 0
  | x :: l => if x = 63 then 0 else qAt l + 1
theorem qAt_le : ∀ l : List UInt8, qAt l ≤ l.length
  | [] => Nat.le_refl _
  | x :: l => by
    rw [qAt]
    split
    · exact Nat.zero_le _
    · have := qAt_le l; simp; omega
theorem qAt_stop : ∀ (l : List UInt8) (k : Nat) (h : k < l.length), k ≤ qAt l → l[k] = 63 → qAt l = k
  | [], k, h, _, _ => by simp at h
  | x :: l, 0, _, _, h63 => by
    have : x = 63 := h63
    rw [qAt, if_pos this]
  | x :: l, k + 1, h, hk, h63 => by
    rw [qAt] at hk ⊢
    split at hk
    · omega
    · rename_i hx
      rw [if_neg hx, qAt_stop l k (by simpa using h) (by omega) h63]
theorem qAt_on : ∀ (l : List UInt8) (k : Nat) (h : k < l.length), k ≤ qAt l → ¬ l[k] = 63 → k + 1 ≤ qAt l
  | [], k, h, _, _ => by simp at h
  | x :: l, 0, _, _, h63 => by
    have : ¬ x = 63 := h63
    rw [qAt, if_neg this]; omega
  | x :: l, k + 1, h, hk, h63 => by
    rw [qAt] at hk ⊢
    split at hk
    · omega
    · rename_i hx
      rw [if_neg hx]
      have := qAt_on l k (by simpa using h) (by omega) h63
      omega
/-- What stands behind the path in a key. -/
def keyQ (ps : List (List UInt8)) : List UInt8 := if ps = [] then [] else 63 :: Lib.join ps [38]
theorem keyQ_nil : keyQ [] = [] := rfl
theorem join_snoc (ps : List (List UInt8)) (x sep : List UInt8) (h : ps ≠ []) : Lib.join (ps ++ [x]) sep = Lib.join ps sep ++ sep ++ x := by
  cases ps with
  | nil => exact absurd rfl h
  | cons y ps => rw [List.cons_append, Lib.join_cons, Lib.join_cons]; simp [Lib.joinTail]
theorem keyQ_first (x : List UInt8) : keyQ [x] = 63 :: x := by simp [keyQ, Lib.join_one]
theorem keyQ_more (ps : List (List UInt8)) (x : List UInt8) (h : ps ≠ []) : keyQ (ps ++ [x]) = keyQ ps ++ 38 :: x := by
  rw [keyQ, if_neg (by simp), keyQ, if_neg h, join_snoc _ _ _ h]; simp
def keyParts (p : List UInt8) : List (List UInt8) := sortS (fullP (cutG 38 [] (p.drop (qAt p + 1))))
def keyT (h p : ByteArray) : List UInt8 := (lowS h).data.toList ++ p.data.toList.take (qAt p.data.toList) ++ keyQ (keyParts p.data.toList)
theorem keyParts_none (p : List UInt8) (h : qAt p = p.length) : keyParts p = [] := by
  rw [keyParts, h, List.drop_of_length_le (by omega)]; rfl
theorem fullP_take_on (l : List (List UInt8)) (k : Nat) (x : List UInt8) (h : l[k]? = some x) (hx : x ≠ []) : fullP (l.take (k + 1)) = fullP (l.take k) ++ [x] := by
  rw [List.take_add_one, h]; exact fullP_snoc _ _ hx
theorem fullP_take_nil (l : List (List UInt8)) (k : Nat) (h : l[k]? = some []) : fullP (l.take (k + 1)) = fullP (l.take k) := by
  rw [List.take_add_one, h]; exact fullP_snoc_nil _
theorem fullP_len (l : List (List UInt8)) : (fullP l).length ≤ l.length := List.length_filter_le _ _
theorem cutG_len (c : UInt8) : ∀ (l cur : List UInt8), (cutG c cur l).length ≤ l.length + 1
  | [], cur => by simp [cutG]
  | x :: l, cur => by
    rw [cutG]
    split
    · have := cutG_len c l []; simp; omega
    · have := cutG_len c l (cur ++ [x]); simp; omega
/-- All bytes of the pieces. -/
def sumL (ps : List (List UInt8)) : Nat := (ps.map List.length).sum
theorem cutG_sum (c : UInt8) : ∀ (l cur : List UInt8), sumL (cutG c cur l) ≤ l.length + cur.length
  | [], cur => by simp [cutG, sumL]
  | x :: l, cur => by
    rw [cutG]
    split
    · have := cutG_sum c l []; simp [sumL] at this ⊢; omega
    · have := cutG_sum c l (cur ++ [x]); simp [sumL] at this ⊢; omega
theorem fullP_sum : ∀ ps : List (List UInt8), sumL (fullP ps) ≤ sumL ps
  | [] => Nat.le_refl _
  | [] :: ps => by have := fullP_sum ps; rw [fullP_cons_nil]; simp [sumL] at this ⊢; omega
  | (x :: p) :: ps => by have := fullP_sum ps; rw [fullP_cons _ _ (by simp)]; simp [sumL] at this ⊢; omega
theorem sortS_sum (ps : List (List UInt8)) : sumL (sortS ps) = sumL ps := ((sortS_perm ps).map List.length).sum_nat
theorem keyParts_len (p : List UInt8) : (keyParts p).length ≤ p.length + 1 := by
  rw [keyParts, sortS_len]
  have h1 := fullP_len (cutG 38 [] (p.drop (qAt p + 1)))
  have h2 := cutG_len 38 (p.drop (qAt p + 1)) []
  rw [List.length_drop] at h2
  omega
theorem keyParts_sum (p : List UInt8) : sumL (keyParts p) ≤ p.length := by
  rw [keyParts, sortS_sum]
  have h1 := fullP_sum (cutG 38 [] (p.drop (qAt p + 1)))
  have h2 := cutG_sum 38 (p.drop (qAt p + 1)) []
  rw [List.length_drop] at h2
  simp only [List.length_nil] at h2
  omega
theorem keyQ_len (ps : List (List UInt8)) : (keyQ ps).length ≤ sumL ps + ps.length := by
  rw [keyQ]
  split
  · simp
  · rename_i h
    cases ps with
    | nil => exact absurd rfl h
    | cons x r =>
      rw [Lib.join_cons]
      have : ∀ r : List (List UInt8), (Lib.joinTail [38] r).length = sumL r + r.length := fun r => by
        induction r with
        | nil => rfl
        | cons y r ih => simp [Lib.joinTail, sumL] at ih ⊢; omega
      simp [this, sumL]; omega
theorem sumL_take (ps : List (List UInt8)) (k : Nat) : sumL (ps.take k) ≤ sumL ps := by
  have e := List.take_append_drop k ps
  have : sumL (ps.take k ++ ps.drop k) = sumL (ps.take k) + sumL (ps.drop k) := by simp only [sumL, List.map_append, List.sum_append_nat]
  rw [e] at this
  omega
theorem keyQ_take_len (ps : List (List UInt8)) (k : Nat) : (keyQ (ps.take k)).length ≤ sumL ps + ps.length := by
  have h1 := keyQ_len (ps.take k)
  have h2 := sumL_take ps k
  have h3 : (ps.take k).length ≤ ps.length := List.length_take_le' _ _
  omega
theorem sumL_get (ps : List (List UInt8)) (k : Nat) (x : List UInt8) (h : ps[k]? = some x) : x.length ≤ sumL ps := by
  have e := List.take_append_drop k ps
  have hk := (List.getElem?_eq_some_iff.1 h).1
  rw [List.drop_eq_getElem_cons hk, (List.getElem?_eq_some_iff.1 h).2] at e
  rw [← e]
  simp [sumL]; omega
theorem hmk_add (a b : List UInt8) : (hmk a ++ hmk b : ByteArray) = hmk (a ++ b) := by
  apply ByteArray.ext
  apply Array.ext'
  rw [happ_list]; simp [hmk]
theorem hmk_of (s : ByteArray) : hmk s.data.toList = s := by cases s; simp [hmk]
/-- append of one text, where another row must stay. -/
theorem wpList_append_str_at {ops : Array Oper} {rest : List Oper} {o : Oper} {a : Act} {Q : Exit → Act → World → Prop} (w : World) (hgd : o.guard = none) (s x : Operand)
    (ho : o.op = .call { callee := .builtin .append, args := #[s, x], argTypes := #[25, 25] }) (base : Nat) (v : Value) (l : List ByteArray) (z : ByteArray)
    (hs : a.eval s = v) (hx : a.eval x = .slice (some ⟨w.heap.size, 0, none⟩) 1 1) (hown : OwnS w base v l) (hl : l.length ≤ 1000000) (hbase : base ≤ w.heap.size)
    (b6 : Nat) (v6 : Value) (l6 : List ByteArray) (h6 : OwnS w b6 v6 l6) (g6 : Nat) (hg6 : v6.ownBlock = some g6) (hne : v.ownBlock ≠ some g6)
    (h : ∀ v' w', OwnS w' base v' (l ++ [z]) → OwnS w' b6 v6 l6 → v'.ownBlock ≠ some g6 → Below base w w' → wpList Tryz.prog ops Q rest (a.put o.dst v') w') :
    wpList Tryz.prog ops Q (o :: rest) a (w.alloc (.cells #[.string z] 9)) := by
  obtain ⟨i0, hi, hz0, hz1, hz2⟩ := info_parts infoStr
  refine wpList_append_own_at _ hgd s x 25 ho base 9 i0 (.string ⟨#[]⟩) 1 16 Tryz.underlying25 hi hz0 hz1 hz2 rfl (by decide) v l.length (textsW l) hs (World.ownsRow.alloc hown _) ⟨w.heap.size, 0, none⟩ 1 1 [.string z] hx rfl ?_ ?_ ?_ ?_ ?_ ?_
  · intro j u hj
    match j, hj with
    | 0, hj => simp at hj; subst hj; simp [Addr.add]
  · intro u hu; simp at hu; subst hu; rfl
  · unfold maxLen; omega
  · omega
  · simp; omega
  · intro v' w' h1 h2 h3 h4
    have e : textsW (l ++ [z]) = textsW l ++ [Value.string z] := by simp [textsW]
    have hlt := (World.ownsRow.lt h6 g6 hg6).2
    refine h v' w' (by unfold OwnS; rw [e, List.length_append]; exact h1) ?_ ?_ ?_
    · exact World.ownsRow.kept (World.ownsRow.alloc h6 _) h2 (.inr (by rw [hg6]; exact fun e => hne e.symm))
    · rcases h4 with h4 | h4
      · rw [h4]; exact hne
      · rw [h4]
        intro e
        simp at e
        omega
    · exact ((Below.refl base w).alloc hbase _).grown h2 (by simp; omega) (fun q hq => own_geS hown q hq)
theorem hmk_eqE {x : List UInt8} (h : x ≠ []) : (hmk x).toList.isEmpty = false := by
  rw [Lib.toList_data]
  cases x with
  | nil => exact absurd rfl h
  | cons y x => rfl
theorem hmk_nilE {x : List UInt8} (h : x = []) : (hmk x).toList.isEmpty = true := by
  subst h; rw [Lib.toList_data]; rfl
theorem kext (p : ByteArray) (k : Nat) : (p.extract k p.size).data.toList = p.data.toList.drop k := by
  rw [hext_mk]
  show (List.take (p.size - k) (List.drop k p.data.toList)).toArray.toList = _
  rw [List.toList_toArray]
  exact List.take_of_length_le (by rw [List.length_drop, hsize_list]; omega)
set_option maxRecDepth 100000 in
set_option maxHeartbeats 8000000 in
theorem l5Key_any (w : World) (B : Nat) (m h p : ByteArray) (hv : Value) (F : Four w B (.string m) (.string h) (.string p) hv) (hh : h.size ≤ 60) (hp : p.size ≤ 100) :
    Calls Tryz.prog 66 #[.pointer (some ⟨B, 0, none⟩)] w fun e w' => e = .returned (.string (hmk (keyT h p))) ∧ Below w.heap.size w w' := by
  have HK : Hid (∀ X, Below w.heap.size w X → X.cell? ⟨B, 1, none⟩ = some (.string h) ∧ X.cell? ⟨B, 2, none⟩ = some (.string p)) := fun X hb => ⟨(F.keep hb).c1, (F.keep hb).c2⟩
  have hqs : qAt p.data.toList ≤ p.size := by have := qAt_le p.data.toList; rw [hsize_list] at this; exact this
  have HQ1 : Hid (∀ (k : Nat) (hk : k < p.size), k ≤ qAt p.data.toList → p[k] = 63 → qAt p.data.toList = k) := fun k hk => qAt_stop p.data.toList k (by rw [hsize_list]; exact hk)
  have HQ2 : Hid (∀ (k : Nat) (hk : k < p.size), k ≤ qAt p.data.toList → ¬ p[k] = 63 → k + 1 ≤ qAt p.data.toList) := fun k hk => qAt_on p.data.toList k (by rw [hsize_list]; exact hk)
  obtain ⟨q, hq⟩ : ∃ q, qAt p.data.toList = q := ⟨_, rfl⟩
  have HQE : Hid (qAt p.data.toList = q) := hq
  rw [hq] at hqs HQ1 HQ2
  clear F hq
  go_enter Tryz.func66, Tryz.ntmps66
  go_wp2_with fail
  go_loopw [3] (fun i wr => ∃ k : Nat, k ≤ q ∧ i = .int .i64 (k : Int) ∧ Below w.heap.size w wr) (fun i _ => q - (intOf i).toNat)
  case atStart => exact ⟨0, Nat.zero_le _, rfl, Below.refl _ _⟩
  case round =>
    obtain ⟨k, hk, rfl, hb⟩ := hrel
    obtain ⟨c1, c2⟩ := HK.out wr hb
    have HB : Hid (Below w.heap.size w wr) := hb
    clear hb
    have hne : k ≠ q ∨ k = q := by omega
    rcases hne with hne | hkq
    · have hks : k < p.size := by omega
      have g1 : decide ((k : Int) < (p.size : Int)) = true := by simp; omega
      have n63 : ¬ p[k] = 63 := fun e => hne (HQ1.out k hks hk e).symm
      have hk1 := HQ2.out k hks hk n63
      have d63 : ((p[k].toNat : Int) == 63) = false := by
        rw [beq_eq_false_iff_ne]; intro e
        exact n63 (UInt8.toNat_inj.1 (by simpa using (by omega : p[k].toNat = 63)))
      clear HQ1 HQ2 n63
      go_wp2_with fail
      go_roundw
      case rel => exact ⟨k + 1, by omega, by go_num, HB.out⟩
      case measure => simp [intOf]; omega
    · subst hkq
      by_cases hks : k < p.size
      · have g1 : decide ((k : Int) < (p.size : Int)) = true := by simp; omega
        have e63 : p[k] = 63 := by
          by_cases e : p[k] = 63
          · exact e
          · have := HQ2.out k hks (Nat.le_refl _) e; omega
        have d63 : ((p[k].toNat : Int) == 63) = true := by rw [e63]; rfl
        clear HQ1 HQ2 e63
        have HLW : Hid (∀ X, Calls Tryz.prog 67 #[.string h] X fun e w' => e = .returned (.string (lowS h)) ∧ Below X.heap.size X w') := fun X => l1Lower_any h X (by omega)
        obtain ⟨o0, ho0⟩ : ∃ o : ByteArray, o = lowS h ++ p.extract 0 k := ⟨_, rfl⟩
        have add0 : ∀ X, (Op.stringOp .add (lowS h) (p.extract 0 k)).run Tryz.prog X = .ok (.string o0) X := fun X => by rw [ho0]; exact run_string_add_sum X _ _ (by rw [lowS_size, ByteArray.size_extract]; omega)
        have HO0 : Hid (o0.data.toList = (lowS h).data.toList ++ p.data.toList.take k ∧ o0.size ≤ 160) := by
          refine ⟨by rw [ho0, happ_list]; simp, ?_⟩
          rw [ho0, ByteArray.size_append, lowS_size, ByteArray.size_extract]; omega
        have B0 : Hid (Below wr.heap.size wr wr.drew) := (Below.refl _ _).drew
        have HKS : Hid (∀ X, Below wr.heap.size wr X → X.cell? ⟨B, 1, none⟩ = some (.string h) ∧ X.cell? ⟨B, 2, none⟩ = some (.string p)) := fun X hb => HK.out X (HB.out.trans (hb.mono HB.out.size))
        clear ho0
        obtain ⟨lw, hlw⟩ : ∃ lw, lw = lowS h := ⟨_, rfl⟩
        have HLWE : Hid (lw = lowS h) := hlw
        rw [← hlw] at HLW add0 HO0
        clear hlw
        go_wp2_with fail
        clear c1 c2
        go_region_held3 (fun X => X.cell? ⟨B, 1, none⟩ = some (.string h) ∧ X.cell? ⟨B, 2, none⟩ = some (.string p))
          (first | exact HKS.out _ BA.out | exact HKS.out _ B0.out)
          (first | (go_at_call 67; refine (HLW.out _).mono ?_; rintro e wa ⟨rfl, hba⟩; have BA : Hid (Below wr.heap.size wr wa) := B0.out.trans (hba.mono B0.out.size); clear hba))
        obtain ⟨c1, c2⟩ := HKS.out _ BA.out
        have HBA : Hid (Below w.heap.size w wa) := HB.out.trans (BA.out.mono HB.out.size)
        have bAl : Below wa.heap.size wa (wa.alloc (.cells #[] 9)) := (Below.refl _ _).alloc (Nat.le_refl _) _
        have c2' : (wa.alloc (.cells #[] 9)).cell? ⟨B, 2, none⟩ = some (.string p) := (HKS.out _ (BA.out.trans (bAl.mono BA.out.size))).2
        have HBL : Hid (Below wa.heap.size wa (wa.alloc (.cells #[] 9))) := bAl
        have ge : ((k : Int) == (p.size : Int)) = false := by simp; omega
        have gk0 : (0 : Int) ≤ (k : Int) + 1 := by omega
        have gk1 : (k : Int) + 1 ≤ p.size := by omega
        obtain ⟨C, hC⟩ : ∃ C, C = cutG 38 [] (p.data.toList.drop (k + 1)) := ⟨_, rfl⟩
        have hCl : C.length ≤ 101 := by
          have := cutG_len 38 (p.data.toList.drop (k + 1)) []
          rw [List.length_drop, hsize_list] at this
          rw [hC]; omega
        have HCN : Hid (C ≠ []) := by rw [hC]; exact cutG_ne _ _ _
        have HCC : Hid (∀ X, Calls Tryz.prog 60 #[.string (p.extract (k + 1) p.size), .int .u8 38] X fun e w' => CutRes C X.heap.size e w' ∧ Below X.heap.size X w') := fun X => by
          have := l1Cut_any (p.extract (k + 1) p.size) 38 X (by rw [ByteArray.size_extract]; omega)
          rw [kext] at this
          rw [hC]
          exact this
        have HKP : Hid (sortS (fullP C) = keyParts p.data.toList) := by show _ = _; rw [hC, keyParts, HQE.out]
        clear hC bAl HKS B0 BA HLW add0 d63 g1
        go_wp2_with fail
        refine (HCC.out _).mono ?_
        rintro e w2 ⟨⟨v6, rfl, ho6⟩, hb2⟩
        obtain ⟨g6, c6, rfl⟩ := ho6.isS (fun e => HCN.out (by simpa using e))
        rw [List.length_map] at ho6 ⊢
        have HP0 : Hid (OwnS w2 wa.heap.size (.slice (some ⟨wa.heap.size, 0, none⟩) 0 0) []) := (ownS_made0 wa wa.heap.size (Nat.le_refl _)).below hb2
        have HA0 : Hid (OwnS w2 (wa.heap.size + 1) (.slice (some ⟨g6, 0, none⟩) C.length c6) (C.map hmk)) := ho6.lower (by simp)
        have HB2 : Hid (Below w.heap.size w w2) := HBA.out.trans ((HBL.out.trans (hb2.mono HBL.out.size)).mono HBA.out.size)
        have hg6 : wa.heap.size + 1 ≤ g6 := (World.ownsRow.lt ho6 g6 rfl).1 |> fun h => by simpa using h
        have hsz : w.heap.size ≤ wa.heap.size := HBA.out.size
        clear ho6 hb2 HBL c1 c2 c2' HCC HCN HBA
        go_wp2_with fail
        go_loopw [5, 7] (fun v i wr => ∃ (k : Nat), k ≤ C.length ∧ i = .int .i64 (k : Int) ∧ OwnS wr wa.heap.size v ((fullP (C.take k)).map hmk) ∧ v.ownBlock ≠ some g6 ∧ OwnS wr (wa.heap.size + 1) (.slice (some ⟨g6, 0, none⟩) C.length c6) (C.map hmk) ∧ Below w.heap.size w wr) (fun _ i _ => C.length - (intOf i).toNat)
        case atStart => exact ⟨0, Nat.zero_le _, rfl, HP0.out, by simp [Value.ownBlock]; omega, HA0.out, HB2.out⟩
        case round =>
          obtain ⟨j, hj, rfl, hp, hpn, ha, hb⟩ := hrel
          have HP : Hid (OwnS wr wa.heap.size u5 ((fullP (C.take j)).map hmk)) := hp
          have HPN : Hid (u5.ownBlock ≠ some g6) := hpn
          have HA : Hid (OwnS wr (wa.heap.size + 1) (.slice (some ⟨g6, 0, none⟩) C.length c6) (C.map hmk)) := ha
          have HBR : Hid (Below w.heap.size w wr) := hb
          clear hp hpn ha hb
          by_cases hlt : j < C.length
          · obtain ⟨x, hx⟩ : ∃ x, C[j]? = some x := ⟨C[j], List.getElem?_eq_getElem hlt⟩
            have hcx : wr.cell? ⟨g6, j, none⟩ = some (.string (hmk x)) := HA.out.cellAt j (hmk x) (by rw [List.getElem?_map, hx]; rfl)
            have gj : (j : Int) < C.length := by omega
            by_cases hx0 : x = []
            · have HF : Hid (fullP (C.take (j + 1)) = fullP (C.take j)) := fullP_take_nil C j (by rw [hx, hx0])
              have dE := hmk_nilE hx0
              clear hx hx0
              go_wp2_with fail
              go_roundw
              case rel => exact ⟨j + 1, by omega, by go_num, by rw [HF.out]; exact HP.out, HPN.out, HA.out, HBR.out⟩
              case measure => simp [intOf]; omega
            · have HF : Hid (fullP (C.take (j + 1)) = fullP (C.take j) ++ [x]) := fullP_take_on C j x hx hx0
              have dE := hmk_eqE hx0
              have hfl : ((fullP (C.take j)).map hmk).length ≤ 1000 := by
                rw [List.length_map]
                have h1 := fullP_len (C.take j)
                rw [List.length_take] at h1
                omega
              have hzz : wa.heap.size ≤ wr.heap.size := by have := (World.ownsRow.lt HA.out g6 rfl).2; omega
              clear hx hx0
              go_wp2_with (at_builtin; refine wpList_append_str_at _ rfl (.tmp 67) (.tmp 72) rfl wa.heap.size _ _ (hmk x) rfl rfl HP.out (by omega) hzz _ _ _ HA.out g6 rfl HPN.out ?_; intro v4 w4 HO4 HA4 HN4 hb4)
              go_roundw
              case rel => exact ⟨j + 1, by omega, by go_num, by rw [HF.out, List.map_append]; exact HO4, HN4, HA4, HBR.out.trans (hb4.mono hsz)⟩
              case measure => simp [intOf]; omega
          · have ej : j = C.length := by omega
            subst ej
            have HS : Hid (∀ v, OwnS wr wa.heap.size v ((fullP (C.take C.length)).map hmk) → Calls Tryz.prog 83 #[v] wr fun e w' => CutRes (keyParts p.data.toList) wr.heap.size e w' ∧ Below wr.heap.size wr w') := fun v hv => by
              rw [List.take_length] at hv
              have := l5Sort_any (fullP C) v _ wr (by have := fullP_len C; omega) hv
              rw [HKP.out] at this
              exact this
            clear HA HPN
            go_wp2_with fail
            refine (HS.out _ HP.out).mono ?_
            rintro e w5 ⟨⟨v5, rfl, ho5⟩, hb5⟩
            obtain ⟨a5, c5, rfl, hc5⟩ := ho5.shape
            obtain ⟨S, hS⟩ : ∃ S, S = keyParts p.data.toList := ⟨_, rfl⟩
            rw [← hS] at hc5 ⊢
            rw [List.length_map]
            have hSl : S.length ≤ 101 := by rw [hS]; have := keyParts_len p.data.toList; rw [hsize_list] at this; omega
            have hSs : sumL S ≤ 100 := by rw [hS]; have := keyParts_sum p.data.toList; rw [hsize_list] at this; omega
            have HS5 : Hid (S = keyParts p.data.toList) := hS
            have HC5 : Hid (∀ (i : Nat) x, S[i]? = some x → ∃ g, a5 = some ⟨g, 0, none⟩ ∧ w5.cell? ⟨g, i, none⟩ = some (.string (hmk x))) := fun i x hx => hc5 i (hmk x) (by rw [List.getElem?_map, hx]; rfl)
            have HB5 : Hid (Below w.heap.size w w5) := HBR.out.trans (hb5.mono HBR.out.size)
            clear ho5 hc5 hS hb5 HS HP HBR HP0 HA0 HB2 HKP
            go_wp2_with fail
            go_loopw [4, 8] (fun v i wr => ∃ (k : Nat) (o : ByteArray), k ≤ S.length ∧ i = .int .i64 (k : Int) ∧ v = .string o ∧ o.data.toList = o0.data.toList ++ keyQ (S.take k) ∧ Below w5.heap.size w5 wr) (fun _ i _ => S.length - (intOf i).toNat)
            case atStart => exact ⟨0, o0, Nat.zero_le _, rfl, rfl, by simp [keyQ_nil], Below.refl _ _⟩
            case round =>
              obtain ⟨j, o, hj, rfl, rfl, ho, hb⟩ := hrel
              have hos : o.size ≤ 600 := by
                have h1 := congrArg List.length ho
                have h2 := keyQ_take_len S j
                have h3 := HO0.out.2
                rw [List.length_append, hsize_list, hsize_list] at h1
                omega
              have HO : Hid (o.data.toList = o0.data.toList ++ keyQ (S.take j)) := ho
              have HBR : Hid (Below w5.heap.size w5 wr) := hb
              clear ho hb
              by_cases hlt : j < S.length
              · obtain ⟨x, hx⟩ : ∃ x, S[j]? = some x := ⟨S[j], List.getElem?_eq_getElem hlt⟩
                obtain ⟨g, rfl, hcx0⟩ := HC5.out j x hx
                have hcx : wr.cell? ⟨g, j, none⟩ = some (.string (hmk x)) := by rw [HBR.out.cell (p := ⟨g, j, none⟩) (block_lt_of_cell hcx0)]; exact hcx0
                have hxs : (hmk x).size ≤ 100 := by have := sumL_get S j x hx; rw [hmk_size]; omega
                have gj : (j : Int) < S.length := by omega
                have HT : Hid (S.take (j + 1) = S.take j ++ [x]) := by show _ = _; rw [List.take_add_one, hx]; rfl
                have HXL : Hid ((hmk x).data.toList = x) := by show _ = _; simp [hmk]
                clear hcx0 HC5 hx
                by_cases hj0 : j = 0
                · subst hj0
                  have HE : Hid ((o ++ ⟨#[63]⟩ ++ hmk x : ByteArray).data.toList = o0.data.toList ++ keyQ (S.take (0 + 1))) := by
                    show _ = _
                    rw [happ_list, happ_list, HO.out, HXL.out, HT.out]
                    simp [keyQ_first, keyQ_nil]
                  go_wp2_with fail
                  go_roundw
                  case rel => exact ⟨0 + 1, _, by omega, by go_num, rfl, HE.out, HBR.out⟩
                  case measure => simp [intOf]; omega
                · have dj : ((j : Int) == 0) = false := by simp; omega
                  have HE : Hid ((o ++ ⟨#[38]⟩ ++ hmk x : ByteArray).data.toList = o0.data.toList ++ keyQ (S.take (j + 1))) := by
                    show _ = _
                    rw [happ_list, happ_list, HO.out, HXL.out, HT.out, keyQ_more _ _ (fun e => by have := congrArg List.length e; rw [List.length_take, List.length_nil] at this; omega)]
                    simp
                  go_wp2_with fail
                  go_roundw
                  case rel => exact ⟨j + 1, _, by omega, by go_num, rfl, HE.out, HBR.out⟩
                  case measure => simp [intOf]; omega
              · have ej : j = S.length := by omega
                subst ej
                have HR : Hid (o = hmk (keyT h p)) := by
                  show _ = _
                  refine hof_list ?_
                  rw [HO.out, HO0.out.1, List.take_length, HS5.out, keyT, HQE.out, HLWE.out]
                clear HC5
                go_wp2_with fail
                go_ret
                exact ⟨congrArg (fun s => Ending.returned (.string s)) HR.out, HB5.out.trans (HBR.out.mono HB5.out.size)⟩
      · have g1 : decide ((k : Int) < (p.size : Int)) = false := by simp; omega
        clear HQ1 HQ2
        have HLW : Hid (∀ X, Calls Tryz.prog 67 #[.string h] X fun e w' => e = .returned (.string (lowS h)) ∧ Below X.heap.size X w') := fun X => l1Lower_any h X (by omega)
        obtain ⟨o0, ho0⟩ : ∃ o : ByteArray, o = lowS h ++ p.extract 0 k := ⟨_, rfl⟩
        have add0 : ∀ X, (Op.stringOp .add (lowS h) (p.extract 0 k)).run Tryz.prog X = .ok (.string o0) X := fun X => by rw [ho0]; exact run_string_add_sum X _ _ (by rw [lowS_size, ByteArray.size_extract]; omega)
        have HO0 : Hid (o0.data.toList = (lowS h).data.toList ++ p.data.toList.take k ∧ o0.size ≤ 160) := by
          refine ⟨by rw [ho0, happ_list]; simp, ?_⟩
          rw [ho0, ByteArray.size_append, lowS_size, ByteArray.size_extract]; omega
        have B0 : Hid (Below wr.heap.size wr wr.drew) := (Below.refl _ _).drew
        have HKS : Hid (∀ X, Below wr.heap.size wr X → X.cell? ⟨B, 1, none⟩ = some (.string h) ∧ X.cell? ⟨B, 2, none⟩ = some (.string p)) := fun X hb => HK.out X (HB.out.trans (hb.mono HB.out.size))
        clear ho0
        obtain ⟨lw, hlw⟩ : ∃ lw, lw = lowS h := ⟨_, rfl⟩
        have HLWE : Hid (lw = lowS h) := hlw
        rw [← hlw] at HLW add0 HO0
        clear hlw
        go_wp2_with fail
        clear c1 c2
        go_region_held3 (fun X => X.cell? ⟨B, 1, none⟩ = some (.string h) ∧ X.cell? ⟨B, 2, none⟩ = some (.string p))
          (first | exact HKS.out _ BA.out | exact HKS.out _ B0.out)
          (first | (go_at_call 67; refine (HLW.out _).mono ?_; rintro e wa ⟨rfl, hba⟩; have BA : Hid (Below wr.heap.size wr wa) := B0.out.trans (hba.mono B0.out.size); clear hba))
        obtain ⟨c1, c2⟩ := HKS.out _ BA.out
        have HBA : Hid (Below w.heap.size w wa) := HB.out.trans (BA.out.mono HB.out.size)
        have ge : ((k : Int) == (p.size : Int)) = true := by simp; omega
        have HR : Hid (o0 = hmk (keyT h p)) := by
          show _ = _
          refine hof_list ?_
          rw [HO0.out.1, keyT, HQE.out, keyParts_none p.data.toList (by rw [HQE.out, hsize_list]; omega), keyQ_nil, List.append_nil, HLWE.out]
        clear HKS B0 BA HLW add0 g1
        go_wp2_with fail
        go_ret
        exact ⟨congrArg (fun s => Ending.returned (.string s)) HR.out, HBA.out⟩
end Go.Proofs.YtmnblligifgcjaaGreatDoor
/-
  What the model's l4Read and ReadHeaders answer.
-/
namespace Go.Proofs.YtmnblligifgcjaaGreatDoor
open Go.ChangeShapes Go.WideShapes Go.ChangeAt Go.RowKit Go.Sort
theorem wpAny_seq3 {P : Program} {md : Region.Mode} {ops : Array Oper} {Q : Exit → Act → World → Prop} {k : Nat} {o1 o2 o3 : Oper} {listed : Array Bool} {a : Act} {w : World} (h1 : ops[k]? = some o1) (h2 : ops[k + 1]? = some o2) (h3 : ops[k + 2]? = some o3) (h4 : ops.size = k + 3)
    (hB : Region.seqB md ops 3 k listed = true) (h : wpList P ops Q [o1, o2, o3] a w) : wpAny P md ops Q 3 listed a w :=
  wpAny_of_seq [o1, o2, o3] k listed a w (fun j => by
    match j with
    | 0 => simpa using h1.symm
    | 1 => simpa using h2.symm
    | 2 => simpa using h3.symm
    | j + 3 => rw [Array.getElem?_eq_none (by omega)]; simp) hB h
def HReadRes (s : ByteArray) (base : Nat) (e : Ending) (w : World) : Prop := ∃ v, e = .returned (.tuple #[v, .int .i64 (readHC s)]) ∧ OwnH w base v (readHL s)
theorem HReadRes.mk {s : ByteArray} {base : Nat} {w : World} {v : Value} {c : Int} {L : List Hdr} (h : readHC s = c ∧ readHL s = L) (ho : OwnH w base v L) : HReadRes s base (.returned (.tuple #[v, .int .i64 c])) w := ⟨v, by rw [h.1], by rw [h.2]; exact ho⟩
theorem readT_of_none {l : List UInt8} (h : linesO l = none) : readT l = none := by unfold readT; rw [h]; rfl
theorem readT_of_some {l : List UInt8} {P : List (List UInt8)} (h : linesO l = some P) : readT l = readLs P := by unfold readT; rw [h]; rfl
theorem cl_get (p : List UInt8) (k : Nat) (h : k < (hmk p).size) : (hmk p)[k] = p[k]'(by rw [hmk_size] at h; exact h) := by
  rfl
theorem hext_take (p : List UInt8) (k : Nat) : (hmk p).extract 0 k = hmk (p.take k) := by
  rw [hext_mk, hmk_list]; simp
theorem hext_drop (p : List UInt8) (k : Nat) : (hmk p).extract k (hmk p).size = hmk (p.drop k) := by
  rw [hext_mk, hmk_list, hmk_size, List.take_of_length_le (by rw [List.length_drop]; exact Nat.le_refl _)]
end Go.Proofs.YtmnblligifgcjaaGreatDoor
/-
  What ReadHeaders and its model answer.
-/
namespace Go.Proofs.YtmnblligifgcjaaGreatDoor
open Go.ChangeShapes Go.WideShapes Go.ChangeAt Go.RowKit Go.Sort
/-- The library's own variable holds some number. -/
def MaxIs (w : World) : Prop := ∃ m, w.cell? ⟨1, 0, none⟩ = some (.int .i64 m)
theorem MaxIs.below {w w' : World} (h : MaxIs w) (hb : Below w.heap.size w w') : MaxIs w' := by
  obtain ⟨m, h⟩ := h
  exact ⟨m, hkeep hb h⟩
theorem below_drewN (w : World) (n : Nat) : Below w.heap.size w (w.drewN n) :=
  have h := Below.refl w.heap.size w
  ⟨h.os, h.tape, h.output, h.size, h.block⟩
theorem hcut_cr (l : List UInt8) (w : World) (hm : MaxIs w) (hl : l.length ≤ 6000) (h : crAt l < l.length) :
    Calls Tryz.prog 107 #[.string (hmk l), .string ⟨#[13, 10]⟩] w fun e w' => e = .returned (.tuple #[.string (hmk (l.take (crAt l))), .string (hmk (l.drop (crAt l + 2))), .bool true]) ∧ Below w.heap.size w w' := by
  obtain ⟨m, hm⟩ := hm
  have := Any.strings_Cut Tryz.laysM145.ton145 (hmk l) ⟨#[13, 10]⟩ m w (by rw [hmk_size]; omega) hm
  rw [hmk_list, show (⟨#[13, 10]⟩ : ByteArray).data.toList = [13, 10] from rfl, cut_cr h] at this
  exact this.mono fun e w' ⟨h1, n, h2⟩ => ⟨h1, h2 ▸ below_drewN w n⟩
theorem hcut_cl (l : List UInt8) (w : World) (hm : MaxIs w) (hl : l.length ≤ 6000) (h : clAt l < l.length) :
    Calls Tryz.prog 107 #[.string (hmk l), .string ⟨#[58]⟩] w fun e w' => e = .returned (.tuple #[.string (hmk (l.take (clAt l))), .string (hmk (l.drop (clAt l + 1))), .bool true]) ∧ Below w.heap.size w w' := by
  obtain ⟨m, hm⟩ := hm
  have := Any.strings_Cut Tryz.laysM145.ton145 (hmk l) ⟨#[58]⟩ m w (by rw [hmk_size]; omega) hm
  rw [hmk_list, show (⟨#[58]⟩ : ByteArray).data.toList = [58] from rfl, cut_cl h] at this
  exact this.mono fun e w' ⟨h1, n, h2⟩ => ⟨h1, h2 ▸ below_drewN w n⟩
theorem hcut_no (l : List UInt8) (w : World) (hm : MaxIs w) (hl : l.length ≤ 6000) (h : ¬ clAt l < l.length) :
    Calls Tryz.prog 107 #[.string (hmk l), .string ⟨#[58]⟩] w fun e w' => e = .returned (.tuple #[.string (hmk l), .string ⟨#[]⟩, .bool false]) ∧ Below w.heap.size w w' := by
  obtain ⟨m, hm⟩ := hm
  have := Any.strings_Cut Tryz.laysM145.ton145 (hmk l) ⟨#[58]⟩ m w (by rw [hmk_size]; omega) hm
  rw [hmk_list, show (⟨#[58]⟩ : ByteArray).data.toList = [58] from rfl, cut_cl_no h] at this
  exact this.mono fun e w' ⟨h1, n, h2⟩ => ⟨h1, h2 ▸ below_drewN w n⟩
theorem hmk_empty {l : List UInt8} (h : ¬ l = []) : (hmk l).toList.isEmpty = false := by
  rw [ByteArray.toList_eq, hmk_list]
  cases l with
  | nil => exact absurd rfl h
  | cons c r => rfl
theorem str_hmk (s : ByteArray) : s = hmk s.data.toList := by cases s; simp [hmk]
theorem linesO_found {l : List UInt8} (h0 : ¬ l = []) (h : (linesO l).isSome = true) : crAt l < l.length ∧ (linesO (l.drop (crAt l + 2))).isSome = true := by
  by_cases c : crAt l < l.length
  · refine ⟨c, ?_⟩
    rw [linesO_cut c, Option.isSome_map] at h
    exact h
  · rw [linesO_bad h0 c] at h; cases h
theorem readT_none_of {l : List UInt8} (h : (linesO l).isSome = false) : readT l = none := by
  cases c : linesO l with
  | none => exact readT_of_none c
  | some P => rw [c] at h; cases h
def strLen : Value → Nat
  | .string b => b.size
  | _ => 0
theorem trim_hmk (l : List UInt8) (h : l.length ≤ 6000) : (trimT (hmk l)).size ≤ 6000 := by
  have := trimT_size (hmk l)
  rw [hmk_size] at this
  omega
/-- The loop of ReadHeaders: what is read, and what is left. -/
structure ReadAt (s : ByteArray) (R : List Hdr) (rl : List UInt8) : Prop where
  eq : readT s.data.toList = (readT rl).map (R ++ ·)
  isS : (linesO rl).isSome = true
  len : R.length + rl.length ≤ 6000
theorem ReadAt.take {s : ByteArray} {R : List Hdr} {rl : List UInt8} (h : ReadAt s R rl) (h0 : ¬ rl = []) (hc : clAt (rl.take (crAt rl)) < (rl.take (crAt rl)).length) : ReadAt s (R ++ [lineOf (rl.take (crAt rl))]) (rl.drop (crAt rl + 2)) := by
  obtain ⟨h1, h2⟩ := linesO_found h0 h.isS
  have := crAt_room rl h1
  refine ⟨?_, h2, ?_⟩
  · rw [h.eq, readT_take h1 hc, Option.map_map]
    congr 1
    funext x
    simp
  · have hl := h.len
    simp only [List.length_append, List.length_cons, List.length_nil, List.length_drop]
    omega
theorem ReadAt.bad {s : ByteArray} {R : List Hdr} {rl : List UInt8} (h : ReadAt s R rl) (h0 : ¬ rl = []) (hc : ¬ clAt (rl.take (crAt rl)) < (rl.take (crAt rl)).length) : readT s.data.toList = none := by
  rw [h.eq, readT_bad (linesO_found h0 h.isS).1 hc]
  rfl
theorem ReadAt.done {s : ByteArray} {R : List Hdr} (h : ReadAt s R []) : readT s.data.toList = some R := by
  rw [h.eq, readT_nil]
  simp
theorem readH_none : readHC ⟨#[]⟩ = 0 ∧ readHL ⟨#[]⟩ = [] := readH_ok (L := []) (by decide) readT_nil rfl
end Go.Proofs.YtmnblligifgcjaaGreatDoor
/-
  Where a pattern stands first in a text; a text cut there. No Go in sight.
-/
namespace Go.Proofs.YtmnblligifgcjaaGreatDoor
/-- Where the pattern stands first; the length where it does not. -/
def patAt (p : List UInt8) : List UInt8 → Nat
  | [] => 0
  | x :: r => if p.isPrefixOf (x :: r) = true then 0 else 1 + patAt p r
theorem patAt_le (p : List UInt8) : ∀ l : List UInt8, patAt p l ≤ l.length
  | [] => Nat.le_refl _
  | x :: r => by
    have := patAt_le p r
    rw [patAt]
    split
    · exact Nat.zero_le _
    · simp only [List.length_cons]; omega
theorem patAt_is (p : List UInt8) : ∀ l : List UInt8, patAt p l < l.length → p.isPrefixOf (l.drop (patAt p l)) = true
  | [], h => by simp [patAt] at h
  | x :: r, h => by
    rw [patAt] at h ⊢
    by_cases e : p.isPrefixOf (x :: r) = true
    · rw [if_pos e]; exact e
    · rw [if_neg e] at h ⊢
      have := patAt_is p r (by simp only [List.length_cons] at h; omega)
      rw [show 1 + patAt p r = patAt p r + 1 from by omega, List.drop_succ_cons]
      exact this
theorem patAt_not (p : List UInt8) : ∀ (l : List UInt8) (j : Nat), j < patAt p l → p.isPrefixOf (l.drop j) = false
  | [], j, h => by simp [patAt] at h
  | x :: r, j, h => by
    rw [patAt] at h
    by_cases e : p.isPrefixOf (x :: r) = true
    · rw [if_pos e] at h; omega
    · rw [if_neg e] at h
      cases j with
      | zero => rw [List.drop_zero]; exact Bool.eq_false_iff.2 e
      | succ j => rw [List.drop_succ_cons]; exact patAt_not p r j (by omega)
theorem patAt_of (p : List UInt8) : ∀ (l : List UInt8) (k : Nat), k < l.length → p.isPrefixOf (l.drop k) = true → (∀ j, j < k → p.isPrefixOf (l.drop j) = false) → patAt p l = k
  | [], k, h, _, _ => by simp at h
  | x :: r, 0, _, h, _ => by rw [patAt, if_pos (by simpa using h)]
  | x :: r, k + 1, hk, h, hn => by
    have h0 := hn 0 (by omega)
    rw [patAt, if_neg (by rw [List.drop_zero] at h0; rw [h0]; decide), patAt_of p r k (by simpa using hk) (by simpa using h) (fun j hj => by simpa using hn (j + 1) (by omega))]
    omega
theorem patAt_none (p : List UInt8) : ∀ (l : List UInt8), (∀ j, j < l.length → p.isPrefixOf (l.drop j) = false) → patAt p l = l.length
  | [], _ => rfl
  | x :: r, h => by
    have h0 := h 0 (by simp)
    rw [patAt, if_neg (by rw [List.drop_zero] at h0; rw [h0]; decide), patAt_none p r (fun j hj => by simpa using h (j + 1) (by simpa using hj))]
    simp only [List.length_cons]; omega
theorem index_pat {p : List UInt8} (hp : p ≠ []) (l : List UInt8) : Lib.index l p = if patAt p l < l.length then (patAt p l : Int) else -1 := by
  by_cases h : patAt p l < l.length
  · rw [if_pos h]
    exact Lib.index_first (Nat.le_of_lt h) (patAt_is p l h) (fun j hj => patAt_not p l j hj)
  · rw [if_neg h]
    have e : patAt p l = l.length := by have := patAt_le p l; omega
    refine Lib.index_none fun j hj => ?_
    by_cases c : j < patAt p l
    · exact patAt_not p l j c
    · have : j = l.length := by omega
      subst this
      cases p with
      | nil => exact absurd rfl hp
      | cons a p => simp [Lib.occAt]
theorem cut_pat {p l : List UInt8} (hp : p ≠ []) (h : patAt p l < l.length) : Lib.cut l p = (l.take (patAt p l), l.drop (patAt p l + p.length), true) := by
  unfold Lib.cut
  rw [index_pat hp, if_pos h, if_pos (by omega)]
  rfl
theorem cut_pat_no {p l : List UInt8} (hp : p ≠ []) (h : ¬ patAt p l < l.length) : Lib.cut l p = (l, [], false) := by
  unfold Lib.cut
  rw [index_pat hp, if_neg h, if_neg (by omega)]
theorem pre_one (c x : UInt8) (r : List UInt8) : ([c] : List UInt8).isPrefixOf (x :: r) = decide (x = c) := by
  simp only [List.isPrefixOf, Bool.and_true]
  by_cases h : x = c
  · subst h; simp
  · rw [beq_eq_false_iff_ne.2 (fun e => h e.symm)]; simp [h]
/-- What is cut at a byte, by the place where the byte stands first. -/
theorem cutG_pat (c : UInt8) : ∀ (l cur : List UInt8), cutG c cur l = if patAt [c] l < l.length then (cur ++ l.take (patAt [c] l)) :: cutG c [] (l.drop (patAt [c] l + 1)) else [cur ++ l]
  | [], cur => by simp [cutG, patAt]
  | x :: r, cur => by
    rw [patAt, pre_one]
    by_cases h : x = c
    · subst h
      rw [cutG_at]; simp
    · rw [cutG_on _ _ h, cutG_pat c r (cur ++ [x])]
      simp only [h, decide_false, Bool.false_eq_true, if_false, List.length_cons]
      by_cases q : patAt [c] r < r.length
      · rw [if_pos q, if_pos (by omega), show 1 + patAt [c] r = patAt [c] r + 1 from by omega]
        simp
      · rw [if_neg q, if_neg (by omega)]
        simp
theorem splitK_cut (c : UInt8) : ∀ (n : Nat) (l : List UInt8), l.length ≤ n → Lib.splitK [c] 0 (Lib.count l [c]) l = cutG c [] l := by
  intro n
  induction n with
  | zero =>
    intro l h
    have : l = [] := List.eq_nil_of_length_eq_zero (by omega)
    subst this
    rw [Lib.count_miss (by simp [Lib.index])]
    rfl
  | succ n ih =>
    intro l h
    rw [cutG_pat]
    by_cases q : patAt [c] l < l.length
    · have hi : Lib.index l [c] = (patAt [c] l : Nat) := by rw [index_pat (by simp), if_pos q]
      rw [Lib.count_hit (by simp) hi, Nat.add_comm, Lib.splitK, if_neg (by rw [hi]; simp), hi, if_pos q]
      have e := ih (l.drop (patAt [c] l + 1)) (by rw [List.length_drop]; omega)
      simp only [Int.toNat_natCast, List.length_singleton, Nat.add_zero, List.nil_append]
      rw [e]
    · rw [Lib.count_miss (by rw [index_pat (by simp), if_neg q]), if_neg q]
      rfl
theorem splitB_cut (c : UInt8) (s : ByteArray) : Lib.splitB ⟨#[c]⟩ 0 (Lib.countB s ⟨#[c]⟩) s = (cutG c [] s.data.toList).map hmk := by
  have h := Lib.splitB_data ⟨#[c]⟩ 0 (Lib.countB s ⟨#[c]⟩) s
  have e : (Lib.splitB ⟨#[c]⟩ 0 (Lib.countB s ⟨#[c]⟩) s) = ((Lib.splitB ⟨#[c]⟩ 0 (Lib.countB s ⟨#[c]⟩) s).map (·.data.toList)).map hmk := by
    rw [List.map_map]
    have : (hmk ∘ fun x : ByteArray => x.data.toList) = id := by
      funext x
      cases x
      simp [hmk]
    rw [this, List.map_id]
  rw [e, h]
  congr 1
  exact splitK_cut c _ s.data.toList (Nat.le_refl _)
theorem cutG_count (c : UInt8) (s : ByteArray) : Lib.countB s ⟨#[c]⟩ + 1 = (cutG c [] s.data.toList).length := by
  have h := Lib.splitB_all ⟨#[c]⟩ (Nat.le_refl _) 0 _ s rfl
  rw [splitB_cut, List.length_map] at h
  exact h.symm
end Go.Proofs.YtmnblligifgcjaaGreatDoor
/-
  What queryPieces answers.
-/
namespace Go.Proofs.YtmnblligifgcjaaGreatDoor
open Go.ChangeShapes Go.WideShapes Go.ChangeAt Go.RowKit
def qParts (s : ByteArray) : List (List UInt8) := fullP (cutG 38 [] s.data.toList)
theorem qParts_len (s : ByteArray) : (qParts s).length ≤ s.size + 1 := by
  have h1 := fullP_len (cutG 38 [] s.data.toList)
  have h2 := cutG_len 38 s.data.toList []
  rw [hsize_list] at h2
  unfold qParts
  omega
theorem textsW_enc (l : List (List UInt8)) : textsW (l.map hmk) = l.map encStr := by
  unfold textsW
  rw [List.map_map]
  rfl
end Go.Proofs.YtmnblligifgcjaaGreatDoor
