/-
  Texts of one claim, one behind the other.
-/
import Derived.BigQuiet
import Derived.Deep.CutRange
import Derived.Deep.RegionWith
import Derived.Lib.AppendIntMem
import Derived.Lib.ItoaLen
import Derived.Lib.ItoaNum
import Derived.Lib.LaidTab
import Derived.Lib.QuietBelow
import Derived.LoopIn
import Derived.LoopNIn
import Derived.Maps.AppendAt
import Derived.OwnWalkIn
import Derived.RangeFuncBound
import Derived.RangeFuncBox
import Derived.RangeFuncCalls
import Derived.RangeFuncLeaves
import Derived.RangeFuncNested
import Derived.Shelf.Abstract
import Derived.Shelf.RegionOpen
import Derived.Shelf.Strconv.Itoa4
import Derived.Shelf.Strings.Search2
import Derived.TacticsInMore
import Derived.WalkKit
import Derived.WalkMore
import Derived.WalkSmall
import Derived.Test.YtgfbahjpaaanoaaGreatDoorPfA
/-
  What the model's l2Item answers.
-/
namespace Go.Proofs.YtgfbahjpaaanoaaGreatDoor
open Go.ChangeShapes Go.WideShapes Go.ChangeAt Go.RowKit
/-- An item and whether it is one. -/
def ItemRes (s : ByteArray) (e : Ending) : Prop := ∃ (r : Rec) (b : Bool), e = .returned (.tuple #[.agg #[.string r.name, .bool r.has, .string r.value], .bool b]) ∧ (b = true → readR s = some r) ∧ (b = false → readR s = none)
theorem ItemRes.no {s : ByteArray} (n : ByteArray) (h : Bool) (v : ByteArray) (hr : readR s = none) : ItemRes s (.returned (.tuple #[.agg #[.string n, .bool h, .string v], .bool false])) := ⟨⟨n, h, v⟩, false, rfl, (fun h => by cases h), fun _ => hr⟩
theorem ItemRes.yes {s : ByteArray} {n : ByteArray} {h : Bool} {v : ByteArray} (hr : readR s = some ⟨n, h, v⟩) : ItemRes s (.returned (.tuple #[.agg #[.string n, .bool h, .string v], .bool true])) := ⟨⟨n, h, v⟩, true, rfl, fun _ => hr, (fun h => by cases h)⟩
theorem eqAt_stop (s : ByteArray) (k : Nat) (hk : k < s.size) (hc : (s[k].toNat : Int) = 61) : eqAt (s.data.toList.drop k) = 0 := by rw [drop_at s k hk, eqAt, if_pos hc]
theorem eqAt_on (s : ByteArray) (k : Nat) (hk : k < s.size) (hc : ¬ (s[k].toNat : Int) = 61) : eqAt (s.data.toList.drop k) = 1 + eqAt (s.data.toList.drop (k + 1)) := by rw [drop_at s k hk, eqAt, if_neg hc]
theorem eqAt_end (s : ByteArray) (k : Nat) (hk : ¬ k < s.size) : eqAt (s.data.toList.drop k) = 0 := by rw [List.drop_of_length_le (by have := size_list s; omega)]; rfl
/-- A struct stored whole. -/
theorem three_set {w : World} {B : Nat} {u0 u1 u2 v0 v1 v2 : Value} (p0 : w.cell? ⟨B, 0, none⟩ = some u0) (p1 : w.cell? ⟨B, 1, none⟩ = some u1) (p2 : w.cell? ⟨B, 2, none⟩ = some u2) :
    (((w.setCell ⟨B, 0, none⟩ v0).setCell ⟨B, 1, none⟩ v1).setCell ⟨B, 2, none⟩ v2).cell? ⟨B, 0, none⟩ = some v0 ∧ (((w.setCell ⟨B, 0, none⟩ v0).setCell ⟨B, 1, none⟩ v1).setCell ⟨B, 2, none⟩ v2).cell? ⟨B, 1, none⟩ = some v1 ∧ (((w.setCell ⟨B, 0, none⟩ v0).setCell ⟨B, 1, none⟩ v1).setCell ⟨B, 2, none⟩ v2).cell? ⟨B, 2, none⟩ = some v2 := by
  have n01 : (⟨B, 0, none⟩ : Addr) ≠ ⟨B, 1, none⟩ := fun h => by have := congrArg Addr.off h; simp at this
  have n02 : (⟨B, 0, none⟩ : Addr) ≠ ⟨B, 2, none⟩ := fun h => by have := congrArg Addr.off h; simp at this
  have n12 : (⟨B, 1, none⟩ : Addr) ≠ ⟨B, 2, none⟩ := fun h => by have := congrArg Addr.off h; simp at this
  refine ⟨?_, ?_, ?_⟩
  · rw [World.cell?_setCell_other _ _ _ _ n02.symm, World.cell?_setCell_other _ _ _ _ n01.symm, World.cell?_setCell_same _ _ _ p0]
  · rw [World.cell?_setCell_other _ _ _ _ n12.symm]
    refine World.cell?_setCell_same _ _ _ (u := u1) ?_
    rw [World.cell?_setCell_other _ _ _ _ n01, p1]
  · refine World.cell?_setCell_same _ _ _ (u := u2) ?_
    rw [World.cell?_setCell_other _ _ _ _ n12, World.cell?_setCell_other _ _ _ _ n02, p2]
theorem two_items {w w1 : World} {n v : ByteArray} {t : TypeId} (hb : Below (w.heap.size + 1 + 1) ((w.alloc (.cells #[.string ⟨#[]⟩, .bool false, .string ⟨#[]⟩] t)).alloc (.cells #[.string n, .bool true, .string v] t)) w1) :
    w.heap.size + 1 < w1.heap.size ∧ w1.cell? ⟨w.heap.size, 0, none⟩ = some (.string ⟨#[]⟩) ∧ w1.cell? ⟨w.heap.size, 1, none⟩ = some (.bool false) ∧ w1.cell? ⟨w.heap.size, 2, none⟩ = some (.string ⟨#[]⟩) ∧
    w1.frozen? ⟨w.heap.size, 0, none⟩ = false ∧ w1.frozen? ⟨w.heap.size, 1, none⟩ = false ∧ w1.frozen? ⟨w.heap.size, 2, none⟩ = false ∧
    w1.cell? ⟨w.heap.size + 1, 0, none⟩ = some (.string n) ∧ w1.cell? ⟨w.heap.size + 1, 1, none⟩ = some (.bool true) ∧ w1.cell? ⟨w.heap.size + 1, 2, none⟩ = some (.string v) ∧ w1.frozen? ⟨w.heap.size + 1, 2, none⟩ = false ∧ Below w.heap.size w w1 := by
  have hz := hb.size
  simp only [World.size_alloc] at hz
  have l0 : w.heap.size < w.heap.size + 1 + 1 := by omega
  have l1 : w.heap.size + 1 < w.heap.size + 1 + 1 := by omega
  have k1 : Below w.heap.size w (w.alloc (.cells #[.string ⟨#[]⟩, .bool false, .string ⟨#[]⟩] t)) := (Below.refl _ _).alloc (Nat.le_refl _) _
  have e := World.size_alloc w (.cells #[.string ⟨#[]⟩, .bool false, .string ⟨#[]⟩] t)
  refine ⟨by omega, ?_, ?_, ?_, ?_, ?_, ?_, ?_, ?_, ?_, ?_, (k1.alloc (by rw [e]; omega) _).trans (hb.mono (by omega))⟩
  · rw [hb.cell (p := ⟨w.heap.size, 0, none⟩) l0]; simp
  · rw [hb.cell (p := ⟨w.heap.size, 1, none⟩) l0]; simp
  · rw [hb.cell (p := ⟨w.heap.size, 2, none⟩) l0]; simp
  · rw [hb.frozen (p := ⟨w.heap.size, 0, none⟩) l0]; simp
  · rw [hb.frozen (p := ⟨w.heap.size, 1, none⟩) l0]; simp
  · rw [hb.frozen (p := ⟨w.heap.size, 2, none⟩) l0]; simp
  · rw [hb.cell (p := ⟨w.heap.size + 1, 0, none⟩) l1, ← e]; simp
  · rw [hb.cell (p := ⟨w.heap.size + 1, 1, none⟩) l1, ← e]; simp
  · rw [hb.cell (p := ⟨w.heap.size + 1, 2, none⟩) l1, ← e]; simp
  · rw [hb.frozen (p := ⟨w.heap.size + 1, 2, none⟩) l1, ← e]; simp
theorem item_put {w : World} {B C : Nat} {a0 a1 a2 b0 b1 b2 v : Value} (hn : B ≠ C) (c0 : w.cell? ⟨B, 0, none⟩ = some a0) (c1 : w.cell? ⟨B, 1, none⟩ = some a1) (c2 : w.cell? ⟨B, 2, none⟩ = some a2)
    (f0 : w.frozen? ⟨B, 0, none⟩ = false) (f1 : w.frozen? ⟨B, 1, none⟩ = false) (f2 : w.frozen? ⟨B, 2, none⟩ = false) (d0 : w.cell? ⟨C, 0, none⟩ = some b0) (d1 : w.cell? ⟨C, 1, none⟩ = some b1) (d2 : w.cell? ⟨C, 2, none⟩ = some b2) :
    (w.setCell ⟨C, 2, none⟩ v).cell? ⟨C, 0, none⟩ = some b0 ∧ (w.setCell ⟨C, 2, none⟩ v).cell? ⟨C, 1, none⟩ = some b1 ∧ (w.setCell ⟨C, 2, none⟩ v).cell? ⟨C, 2, none⟩ = some v ∧
    (w.setCell ⟨C, 2, none⟩ v).cell? ⟨B, 0, none⟩ = some a0 ∧ (w.setCell ⟨C, 2, none⟩ v).cell? ⟨B, 1, none⟩ = some a1 ∧ (w.setCell ⟨C, 2, none⟩ v).cell? ⟨B, 2, none⟩ = some a2 ∧
    (w.setCell ⟨C, 2, none⟩ v).frozen? ⟨B, 0, none⟩ = false ∧ (w.setCell ⟨C, 2, none⟩ v).frozen? ⟨B, 1, none⟩ = false ∧ (w.setCell ⟨C, 2, none⟩ v).frozen? ⟨B, 2, none⟩ = false := by
  have nb : ∀ i j, (⟨C, i, none⟩ : Addr) ≠ ⟨B, j, none⟩ := fun i j h => hn (congrArg Addr.block h).symm
  have n0 : (⟨C, 2, none⟩ : Addr) ≠ ⟨C, 0, none⟩ := fun h => by have := congrArg Addr.off h; simp at this
  have n1 : (⟨C, 2, none⟩ : Addr) ≠ ⟨C, 1, none⟩ := fun h => by have := congrArg Addr.off h; simp at this
  refine ⟨?_, ?_, World.cell?_setCell_same _ _ _ d2, ?_, ?_, ?_, ?_, ?_, ?_⟩
  · rw [World.cell?_setCell_other _ _ _ _ n0, d0]
  · rw [World.cell?_setCell_other _ _ _ _ n1, d1]
  · rw [World.cell?_setCell_other _ _ _ _ (nb 2 0), c0]
  · rw [World.cell?_setCell_other _ _ _ _ (nb 2 1), c1]
  · rw [World.cell?_setCell_other _ _ _ _ (nb 2 2), c2]
  · rw [World.frozen?_setCell]; exact f0
  · rw [World.frozen?_setCell]; exact f1
  · rw [World.frozen?_setCell]; exact f2
set_option maxRecDepth 100000 in
set_option maxHeartbeats 4000000 in
theorem l2Item_any (s : ByteArray) (w : World) (hs : s.size ≤ 1000) :
    Calls Tryz.prog 144 #[.string s] w fun e w' => ItemRes s e ∧ Below w.heap.size w w' := by
  go_enter Tryz.func144, Tryz.ntmps144
  go_wp2_with fail
  go_loop [4] (fun i => ∃ k : Nat, k ≤ s.size ∧ i = .int .i64 k ∧ eqAt s.data.toList = k + eqAt (s.data.toList.drop k)) (fun i => s.size - (intOf i).toNat)
  case atStart => exact ⟨0, Nat.zero_le _, rfl, by simp⟩
  case round =>
    obtain ⟨k, hk, rfl, he⟩ := hrel
    have HE : Hid (eqAt s.data.toList = k + eqAt (s.data.toList.drop k)) := he
    clear he
    by_cases hgo : k < s.size ∧ ¬ ∃ h : k < s.size, (s[k].toNat : Int) = 61
    · obtain ⟨hlt, hc⟩ := hgo
      have hc2 : ¬ (s[k].toNat : Int) = 61 := fun h => hc ⟨hlt, h⟩
      have HX : Hid (eqAt s.data.toList = (k + 1) + eqAt (s.data.toList.drop (k + 1))) := by
        show _ = _
        rw [HE.out, eqAt_on s k hlt hc2]; omega
      have e1 : ((s[k].toNat : Int) != 61) = true := by simpa using hc2
      have g : (k : Int) < s.size := by omega
      clear HE hc hc2
      go_wp2_with fail
      go_round
      case rel => exact ⟨k + 1, by omega, by go_num, HX.out⟩
      case measure => simp [intOf]; omega
    · have HK : Hid (eqAt s.data.toList = k) := by
        show _ = _
        rw [HE.out]
        by_cases hlt : k < s.size
        · by_cases hc : (s[k].toNat : Int) = 61
          · rw [eqAt_stop s k hlt hc]; omega
          · exact absurd ⟨hlt, fun ⟨_, h⟩ => hc h⟩ hgo
        · rw [eqAt_end s k hlt]; omega
      have R1 := @read_noname s
      have R2 := @read_bare s
      have R3 := @read_word s
      have R4 := @read_quote s
      have R5 := @read_bad s
      rw [HK.out] at R1 R2 R3 R4 R5
      have g1 : (0 : Int) ≤ k := by omega
      have g2 : (k : Int) ≤ s.size := by omega
      have hxz : (s.extract (k + 1) s.size).size ≤ 1000 := by simp; omega
      have HStop : Hid (k < s.size → ∃ h : k < s.size, (s[k].toNat : Int) = 61) := fun h => by
        by_cases hc : (s[k].toNat : Int) = 61
        · exact ⟨h, hc⟩
        · exact absurd ⟨h, fun ⟨_, h⟩ => hc h⟩ hgo
      clear hgo HE
      generalize hnm : s.extract 0 k = nm at *
      have HNM : Hid (s.extract 0 k = nm) := hnm
      clear hnm
      by_cases hlt : k < s.size
      · obtain ⟨_, hc⟩ := HStop.out hlt
        have e1 : ((s[k].toNat : Int) != 61) = false := by simpa using hc
        have e2 : ((k : Int) == (s.size : Int)) = false := by simp; omega
        have g3 : (k : Int) < s.size := by omega
        have hks : k ≠ s.size := by omega
        generalize hrs : s.extract (k + 1) s.size = rs at *
        have HRS : Hid (s.extract (k + 1) s.size = rs) := hrs
        clear hrs HStop hc HK R2
        cases hw : wordS nm
        · have HR : Hid (readR s = none) := R1 hw
          have HW : Hid (wordS nm = false) := hw
          clear R1 R3 R4 R5 hw
          go_wp2_with fail
          rw [HNM.out]
          refine (specIsWord_any nm _).mono ?_
          rintro e w1 ⟨rfl, rfl⟩
          rw [HW.out]
          go_wp2_with fail
          exact bodyPost_ret (v := .tuple #[.agg #[.string ⟨#[]⟩, .bool false, .string ⟨#[]⟩], .bool false]) (by simp [results, Tryz.results144, go_sem]) rfl ⟨ItemRes.no _ _ _ HR.out, (Below.refl _ _).alloc (Nat.le_refl _) _⟩
        · have HW : Hid (wordS nm = true) := hw
          cases hv : wordS rs
          · have HV : Hid (wordS rs = false) := hv
            have HU : Hid ((unqB rs = true → readR s = some ⟨nm, true, unqS rs⟩) ∧ (unqB rs = false → readR s = none)) := ⟨R4 hw hks hv, R5 hw hks hv⟩
            clear R1 R3 R4 R5 hw hv
            go_wp2_with fail
            rw [HNM.out]
            refine (specIsWord_any nm _).mono ?_
            rintro e w1 ⟨rfl, rfl⟩
            rw [HW.out]
            go_wp2_with fail
            rw [HNM.out, HRS.out]
            refine (specIsWord_any rs _).mono ?_
            rintro e w1 ⟨rfl, rfl⟩
            rw [HV.out]
            go_wp2_with fail
            refine (l2Unquote_any rs _ (by omega)).mono ?_
            rintro e w1 ⟨rfl, hb1⟩
            simp only [World.size_alloc] at hb1
            obtain ⟨hz1, c0, c1, c2, f0, f1, f2, d0, d1, d2, d3, kb⟩ := two_items hb1
            cases hub : unqB rs
            · have HR : Hid (readR s = none) := HU.out.2 hub
              clear HU hub hb1
              generalize unqS rs = uv at *
              obtain ⟨x0, x1, x2, y0, y1, y2, z0, z1, z2⟩ := item_put (v := .string uv) (by omega : w.heap.size ≠ w.heap.size + 1) c0 c1 c2 f0 f1 f2 d0 d1 d2
              obtain ⟨r0, r1, r2⟩ := three_set (v0 := .string nm) (v1 := .bool true) (v2 := .string uv) y0 y1 y2
              go_wp2_with fail
              exact bodyPost_ret (v := .tuple #[.agg #[.string nm, .bool true, .string uv], .bool false]) (by simp [results, Tryz.results144, go_sem, r0, r1, r2]) rfl ⟨ItemRes.no _ _ _ HR.out, (((kb.setCell (by simp) _).setCell (Nat.le_refl _) _).setCell (Nat.le_refl _) _).setCell (Nat.le_refl _) _⟩
            · have HR : Hid (readR s = some ⟨nm, true, unqS rs⟩) := HU.out.1 hub
              clear HU hub hb1
              generalize unqS rs = uv at *
              obtain ⟨x0, x1, x2, y0, y1, y2, z0, z1, z2⟩ := item_put (v := .string uv) (by omega : w.heap.size ≠ w.heap.size + 1) c0 c1 c2 f0 f1 f2 d0 d1 d2
              obtain ⟨r0, r1, r2⟩ := three_set (v0 := .string nm) (v1 := .bool true) (v2 := .string uv) y0 y1 y2
              go_wp2_with fail
              exact bodyPost_ret (v := .tuple #[.agg #[.string nm, .bool true, .string uv], .bool true]) (by simp [results, Tryz.results144, go_sem, r0, r1, r2]) rfl ⟨ItemRes.yes HR.out, (((kb.setCell (by simp) _).setCell (Nat.le_refl _) _).setCell (Nat.le_refl _) _).setCell (Nat.le_refl _) _⟩
          · have HV : Hid (wordS rs = true) := hv
            have HR : Hid (readR s = some ⟨nm, true, rs⟩) := R3 hw hks hv
            clear R1 R3 R4 R5 hw hv
            go_wp2_with fail
            rw [HNM.out]
            refine (specIsWord_any nm _).mono ?_
            rintro e w1 ⟨rfl, rfl⟩
            rw [HW.out]
            go_wp2_with fail
            rw [HNM.out, HRS.out]
            refine (specIsWord_any rs _).mono ?_
            rintro e w1 ⟨rfl, rfl⟩
            rw [HV.out]
            go_wp2_with fail
            exact bodyPost_ret (v := .tuple #[.agg #[.string nm, .bool true, .string rs], .bool true]) (by simp [results, Tryz.results144, go_sem]) rfl ⟨ItemRes.yes HR.out, ((Below.refl _ _).alloc (Nat.le_refl _) _).alloc (by simp) _⟩
      · have hks : k = s.size := by omega
        have g3 : ¬ (k : Int) < s.size := by omega
        have e2 : ((k : Int) == (s.size : Int)) = true := by simp; omega
        obtain rfl : s = nm := by
          rw [← HNM.out, hks]
          exact ByteArray.extract_zero_size.symm
        clear HStop HK R3 R4 R5 HNM
        cases hw : wordS s
        · have HR : Hid (readR s = none) := R1 hw
          have HW : Hid (wordS s = false) := hw
          clear R1 R2 hw
          go_wp2_with fail
          refine (specIsWord_any s _).mono ?_
          rintro e w1 ⟨rfl, rfl⟩
          rw [HW.out]
          go_wp2_with fail
          exact bodyPost_ret (v := .tuple #[.agg #[.string ⟨#[]⟩, .bool false, .string ⟨#[]⟩], .bool false]) (by simp [results, Tryz.results144, go_sem]) rfl ⟨ItemRes.no _ _ _ HR.out, (Below.refl _ _).alloc (Nat.le_refl _) _⟩
        · have HR : Hid (readR s = some ⟨s, false, ⟨#[]⟩⟩) := R2 hw hks
          have HW : Hid (wordS s = true) := hw
          clear R1 R2 hw
          go_wp2_with fail
          refine (specIsWord_any s _).mono ?_
          rintro e w1 ⟨rfl, rfl⟩
          rw [HW.out]
          go_wp2_with fail
          exact bodyPost_ret (v := .tuple #[.agg #[.string s, .bool false, .string ⟨#[]⟩], .bool true]) (by simp [results, Tryz.results144, go_sem]) rfl ⟨ItemRes.yes HR.out, (Below.refl _ _).alloc (Nat.le_refl _) _⟩
end Go.Proofs.YtgfbahjpaaanoaaGreatDoor
/-
  The laws' copy of a list of items, and their comparing of two.
-/
namespace Go.Proofs.YtgfbahjpaaanoaaGreatDoor
open Go.ChangeShapes Go.WideShapes Go.ChangeAt Go.RowKit Go.Sort
/-- m cells from the head of block G on are there and may be written. -/
def Room (w : World) (G m : Nat) : Prop := ∀ j, j < m → (∃ u, w.cell? ⟨G, j, none⟩ = some u) ∧ w.frozen? ⟨G, j, none⟩ = false
theorem Room.keep {w w' : World} {G m : Nat} (h : Room w G m) (hb : Below w.heap.size w w') : Room w' G m := by
  intro j hj
  obtain ⟨⟨u, hu⟩, hf⟩ := h j hj
  exact ⟨⟨u, by rw [hb.cell (block_lt_of_cell hu)]; exact hu⟩, by rw [hb.frozen (block_lt_of_cell hu)]; exact hf⟩
theorem Room.set {w : World} {G m : Nat} (h : Room w G m) (a : Addr) (v : Value) : Room (w.setCell a v) G m := by
  intro j hj
  obtain ⟨⟨u, hu⟩, hf⟩ := h j hj
  refine ⟨?_, by rw [World.frozen?_setCell]; exact hf⟩
  by_cases e : a = ⟨G, j, none⟩
  · exact ⟨v, by subst e; exact World.cell?_setCell_same _ _ _ hu⟩
  · exact ⟨u, by rw [World.cell?_setCell_other _ _ _ _ e]; exact hu⟩
def put3 (w : World) (G k : Nat) (r : Rec) : World := ((w.setCell ⟨G, k * 3, none⟩ (.string r.name)).setCell ⟨G, k * 3 + 1, none⟩ (.bool r.has)).setCell ⟨G, k * 3 + 2, none⟩ (.string r.value)
theorem off_ne {G i j : Nat} (h : i ≠ j) : (⟨G, i, none⟩ : Addr) ≠ ⟨G, j, none⟩ := fun e => h (congrArg Addr.off e)
theorem put3_other (w : World) (G k : Nat) (r : Rec) (j : Nat) (h0 : k * 3 ≠ j) (h1 : k * 3 + 1 ≠ j) (h2 : k * 3 + 2 ≠ j) : (put3 w G k r).cell? ⟨G, j, none⟩ = w.cell? ⟨G, j, none⟩ := by
  unfold put3
  rw [World.cell?_setCell_other _ _ _ _ (off_ne h2), World.cell?_setCell_other _ _ _ _ (off_ne h1), World.cell?_setCell_other _ _ _ _ (off_ne h0)]
theorem Room.put {w : World} {G m : Nat} (h : Room w G m) (k : Nat) (r : Rec) : Room (put3 w G k r) G m := ((h.set _ _).set _ _).set _ _
theorem ItemsAt.put {w : World} {G n : Nat} {l : List Rec} {k : Nat} {r : Rec} (h : ItemsAt w G 0 (l.take k)) (hr : l[k]? = some r) (hm : Room w G (n * 3)) (hk : k < n) : ItemsAt (put3 w G k r) G 0 (l.take (k + 1)) := by
  intro i q hq
  have hi : i < k + 1 := by
    have := (List.getElem?_eq_some_iff.1 hq).1
    simp at this; omega
  rw [List.getElem?_take_of_lt hi] at hq
  simp only [Nat.zero_add]
  by_cases e : i = k
  · subst e
    rw [hr] at hq
    obtain rfl := Option.some.inj hq
    obtain ⟨⟨u0, g0⟩, _⟩ := hm (i * 3) (by omega)
    obtain ⟨⟨u1, g1⟩, _⟩ := (hm.set ⟨G, i * 3, none⟩ (.string r.name)) (i * 3 + 1) (by omega)
    obtain ⟨⟨u2, g2⟩, _⟩ := ((hm.set ⟨G, i * 3, none⟩ (.string r.name)).set ⟨G, i * 3 + 1, none⟩ (.bool r.has)) (i * 3 + 2) (by omega)
    unfold put3
    refine ⟨?_, ?_, World.cell?_setCell_same _ _ _ g2⟩
    · rw [World.cell?_setCell_other _ _ _ _ (off_ne (by omega)), World.cell?_setCell_other _ _ _ _ (off_ne (by omega))]
      exact World.cell?_setCell_same _ _ _ g0
    · rw [World.cell?_setCell_other _ _ _ _ (off_ne (by omega))]
      exact World.cell?_setCell_same _ _ _ g1
  · have hq2 : (l.take k)[i]? = some q := by rw [List.getElem?_take_of_lt (by omega)]; exact hq
    obtain ⟨a1, a2, a3⟩ := h i q hq2
    simp only [Nat.zero_add] at a1 a2 a3
    exact ⟨by rw [put3_other _ _ _ _ _ (by omega) (by omega) (by omega)]; exact a1, by rw [put3_other _ _ _ _ _ (by omega) (by omega) (by omega)]; exact a2, by rw [put3_other _ _ _ _ _ (by omega) (by omega) (by omega)]; exact a3⟩
theorem infoItem : (Tryz.prog.info? 65).map (fun i => (i.zero, i.size, i.bytes)) = some (some (.agg #[.string ⟨#[]⟩, .bool false, .string ⟨#[]⟩]), 3, 40) := by kernel_rfl
end Go.Proofs.YtgfbahjpaaanoaaGreatDoor
/-
  What the laws over lists of items share.
-/
namespace Go.Proofs.YtgfbahjpaaanoaaGreatDoor
open Go.ChangeShapes Go.WideShapes Go.ChangeAt Go.RowKit
/-- The slice at a holds the items l. -/
def ItsIn (w : World) (a : Option Addr) (l : List Rec) : Prop := l = [] ∨ ∃ b off, a = some ⟨b, off, none⟩ ∧ ItemsAt w b off l
theorem ItsIn.keep {w w' : World} {a : Option Addr} {l : List Rec} (h : ItsIn w a l) (hb : Below w.heap.size w w') : ItsIn w' a l := by
  rcases h with h | ⟨b, off, e, hat⟩
  · exact .inl h
  · exact .inr ⟨b, off, e, hat.keep hb⟩
theorem szR_room {left : Int} {r : Rec} (h : ¬ szR left r < 0) : (r.name.size : Int) ≤ left ∧ (r.value.size : Int) ≤ left ∧ szR left r ≤ left := by
  by_cases c1 : left - (r.name.size : Int) < 0
  · rw [show szR left r = -1 from by simp [szR, c1]] at h; omega
  · by_cases c2 : left - (r.name.size : Int) - (r.value.size : Int) < 0
    · rw [show szR left r = -1 from by simp [szR, c1, c2]] at h; omega
    · have e : szR left r = left - (r.name.size : Int) - (r.value.size : Int) := by simp [szR, c1, c2]
      rw [e]
      omega
theorem szRs_room (l : List Rec) : ∀ left : Int, ¬ szRs left l < 0 → left ≤ 1048576 → ∀ (i : Nat) r, l[i]? = some r → r.name.size ≤ 1048576 ∧ r.value.size ≤ 1048576 := by
  induction l with
  | nil => intro left _ _ i r hr; simp at hr
  | cons x l ih =>
    intro left h hl i r hr
    rw [szRs] at h
    by_cases c : szR left x < 0
    · rw [if_pos c] at h; omega
    · rw [if_neg c] at h
      obtain ⟨z1, z2, z3⟩ := szR_room c
      cases i with
      | zero => simp at hr; subst hr; omega
      | succ i => exact ih _ h (by omega) i r (by simpa using hr)
theorem szL_room {l : List Rec} {left : Int} (hl : left ≤ 1048576) (h : ¬ szL left l < 0) : (l.length : Int) ≤ 1048576 ∧ ∀ (i : Nat) r, l[i]? = some r → r.name.size ≤ 1048576 ∧ r.value.size ≤ 1048576 := by
  unfold szL at h
  by_cases c : left - (l.length : Int) < 0
  · rw [if_pos c] at h; omega
  · rw [if_neg c] at h
    exact ⟨by omega, szRs_room l _ h (by omega)⟩
theorem szRs_le (l : List Rec) : ∀ left : Int, szRs left l ≤ left ∨ szRs left l < 0 := by
  induction l with
  | nil => intro left; exact .inl (Int.le_refl _)
  | cons x l ih =>
    intro left
    rw [szRs]
    by_cases c : szR left x < 0
    · rw [if_pos c]; right; decide
    · rw [if_neg c]
      have := (szR_room c).2.2
      rcases ih (szR left x) with h | h
      · left; omega
      · right; exact h
theorem szL_le {l : List Rec} {left : Int} (h : ¬ szL left l < 0) : szL left l ≤ left := by
  unfold szL at h ⊢
  by_cases c : left - (l.length : Int) < 0
  · rw [if_pos c] at h; omega
  · rw [if_neg c] at h ⊢
    rcases szRs_le l (left - (l.length : Int)) with x | x <;> omega
end Go.Proofs.YtgfbahjpaaanoaaGreatDoor
/-
  A slice of items that the call itself grows.
-/
namespace Go.Proofs.YtgfbahjpaaanoaaGreatDoor
open Go.ChangeShapes Go.WideShapes Go.ChangeAt Go.RowKit
def recW (r : Rec) : List Value := [.string r.name, .bool r.has, .string r.value]
def recsW (l : List Rec) : List Value := l.flatMap recW
theorem recsW_len (l : List Rec) : (recsW l).length = l.length * 3 := by
  induction l with
  | nil => rfl
  | cons r l ih => simp only [recsW, List.flatMap_cons, List.length_append, List.length_cons] at ih ⊢; rw [ih]; simp [recW]; omega
theorem recsW_at (l : List Rec) : ∀ (i : Nat) r, l[i]? = some r → (recsW l)[i * 3]? = some (.string r.name) ∧ (recsW l)[i * 3 + 1]? = some (.bool r.has) ∧ (recsW l)[i * 3 + 2]? = some (.string r.value) := by
  induction l with
  | nil => intro i r hr; simp at hr
  | cons x l ih =>
    intro i r hr
    have e : recsW (x :: l) = .string x.name :: .bool x.has :: .string x.value :: recsW l := by simp [recsW, recW]
    rw [e]
    cases i with
    | zero => simp at hr; subst hr; simp
    | succ i =>
      have := ih i r (by simpa using hr)
      rw [show (i + 1) * 3 = i * 3 + 1 + 1 + 1 from by omega]
      simpa using this
/-- v, nil or not, holds the items l in a row of the call's own, from block base on. -/
def OwnI (w : World) (base : Nat) (v : Value) (l : List Rec) : Prop := w.ownsRow base 65 3 v l.length (recsW l)
theorem OwnI.nil (w : World) (base : Nat) : OwnI w base (.slice none 0 0) [] := World.ownsRow_nil _ _ _ _
theorem OwnI.made0 (w : World) (base : Nat) (hb : base ≤ w.heap.size) : OwnI (w.alloc (.cells #[] 65)) base (.slice (some ⟨w.heap.size, 0, none⟩) 0 0) [] := World.ownsRow_made w #[] 0 hb (by unfold maxLen; omega) rfl
theorem OwnI.below {w w' : World} {base : Nat} {v : Value} {l : List Rec} (h : OwnI w base v l) (hb : Below w.heap.size w w') : OwnI w' base v l := by
  obtain ⟨h1, h2⟩ := h
  refine ⟨h1, ?_⟩
  rcases h2 with h2 | ⟨g, c, cur, e, hg, hh, hrest⟩
  · exact .inl h2
  · exact .inr ⟨g, c, cur, e, hg, by rw [hb.block g (Array.getElem?_eq_some_iff.1 hh).1]; exact hh, hrest⟩
theorem OwnI.lower {w : World} {b0 base : Nat} {v : Value} {l : List Rec} (h : OwnI w base v l) (hb : b0 ≤ base) : OwnI w b0 v l := by
  obtain ⟨h1, h2⟩ := h
  refine ⟨h1, ?_⟩
  rcases h2 with h2 | ⟨g, c, cur, e, hg, hrest⟩
  · exact .inl h2
  · exact .inr ⟨g, c, cur, e, by omega, hrest⟩
theorem OwnI.at {w : World} {base : Nat} {v : Value} {l : List Rec} (h : OwnI w base v l) : ∃ a c, v = .slice a l.length c ∧ ItsIn w a l := by
  have h0 := h
  obtain ⟨_, h1 | ⟨g, c, cur, rfl, _⟩⟩ := h
  · have e : l = [] := List.eq_nil_of_length_eq_zero h1.2
    exact ⟨none, 0, by rw [h1.1, e]; rfl, .inl e⟩
  · refine ⟨_, c, rfl, .inr ⟨g, 0, rfl, fun i r hr => ?_⟩⟩
    have hi := (List.getElem?_eq_some_iff.1 hr).1
    obtain ⟨a1, a2, a3⟩ := recsW_at l i r hr
    have c1 := World.ownsRow.cellAt h0 (i * 3) (by omega)
    have c2 := World.ownsRow.cellAt h0 (i * 3 + 1) (by omega)
    have c3 := World.ownsRow.cellAt h0 (i * 3 + 2) (by omega)
    exact ⟨by rw [Nat.zero_add, c1, a1], by rw [Nat.zero_add, c2, a2], by rw [Nat.zero_add, c3, a3]⟩
theorem own_geI {w : World} {base : Nat} {e : TypeId} {size : Nat} {v : Value} {n : Nat} {xs : List Value} (h : w.ownsRow base e size v n xs) (q : Nat) (hq : v.ownBlock = some q) : base ≤ q := by
  obtain ⟨_, h | ⟨g, c, cur, rfl, hg, _⟩⟩ := h
  · rw [h.1] at hq; cases hq
  · simp only [Value.ownBlock, Option.some.injEq] at hq; omega
theorem own_apart {w : World} {base base' : Nat} {v pv : Value} {l : List Rec} {L : List ByteArray} (hp : OwnS w base' pv L) (hv : OwnI w base v l) : pv.ownBlock = none ∨ pv.ownBlock ≠ v.ownBlock := by
  obtain ⟨_, hp | ⟨g, c, cur, rfl, _, hh, _⟩⟩ := hp
  · left; rw [hp.1]; rfl
  · right
    obtain ⟨_, hv | ⟨g2, c2, cur2, rfl, _, hh2, _⟩⟩ := hv
    · rw [hv.1]; simp [Value.ownBlock]
    · simp only [Value.ownBlock, ne_eq, Option.some.injEq]
      rintro rfl
      rw [hh] at hh2
      simp at hh2
theorem wpList_append_item {ops : Array Oper} {rest : List Oper} {o : Oper} {a : Act} {Q : Exit → Act → World → Prop} (w : World) (hgd : o.guard = none) (s x : Operand)
    (ho : o.op = .call { callee := .builtin .append, args := #[s, x], argTypes := #[54, 54] }) (base : Nat) (v : Value) (l : List Rec) (n : ByteArray) (b : Bool) (z : ByteArray)
    (hs : a.eval s = v) (hx : a.eval x = .slice (some ⟨w.heap.size, 0, none⟩) 1 1) (hown : OwnI w base v l) (hl : l.length ≤ 1000000) (hbase : base ≤ w.heap.size)
    (h : ∀ v' w', OwnI w' base v' (l ++ [⟨n, b, z⟩]) → Below base w w' → w.heap.size ≤ w'.heap.size → (∀ base' pv L, OwnS w base' pv L → OwnS w' base' pv L) → wpList Tryz.prog ops Q rest (a.put o.dst v') w') :
    wpList Tryz.prog ops Q (o :: rest) a (w.alloc (.cells #[.string n, .bool b, .string z] 65)) := by
  obtain ⟨i0, hi, hz0, hz1, hz2⟩ := info_parts infoItem
  refine wpList_append_own _ hgd s x 54 ho base 65 i0 (.agg #[.string ⟨#[]⟩, .bool false, .string ⟨#[]⟩]) 3 40 Tryz.underlying54 hi hz0 hz1 hz2 rfl (by decide) v l.length (recsW l) hs (World.ownsRow.alloc hown _) ⟨w.heap.size, 0, none⟩ 1 1 [.string n, .bool b, .string z] hx rfl ?_ ?_ ?_ ?_ ?_ ?_
  · intro j u hj
    match j, hj with
    | 0, hj => simp at hj; subst hj; simp [Addr.add]
    | 1, hj => simp at hj; subst hj; simp [Addr.add]
    | 2, hj => simp at hj; subst hj; simp [Addr.add]
  · intro u hu; simp at hu; rcases hu with rfl | rfl | rfl <;> rfl
  · unfold maxLen; omega
  · omega
  · simp; omega
  · intro v' w' h1 h2 h3
    have e : recsW (l ++ [⟨n, b, z⟩]) = recsW l ++ [.string n, .bool b, .string z] := by simp [recsW, recW]
    refine h v' w' (by unfold OwnI; rw [e, List.length_append]; exact h1) ?_ ?_ ?_
    · exact ((Below.refl base w).alloc hbase _).grown h2 (by simp; omega) (fun q hq => own_geI hown q hq)
    · have hb := ((Below.refl 0 w).alloc (Nat.zero_le _) (.cells #[.string n, .bool b, .string z] 65)).grown h2 (Nat.zero_le _) (fun q _ => Nat.zero_le _)
      exact hb.size
    · intro base' pv L hp
      exact World.ownsRow.kept (World.ownsRow.alloc hp _) h2 (own_apart hp hown)
end Go.Proofs.YtgfbahjpaaanoaaGreatDoor
/-
  What the model's l2Parse and ParseItems answer.
-/
namespace Go.Proofs.YtgfbahjpaaanoaaGreatDoor
open Go.ChangeShapes Go.WideShapes Go.ChangeAt Go.RowKit
theorem trim_le (s : ByteArray) : (trimT s).size ≤ s.size := by
  have h : (Lib.trimS s.data.toList [32, 9]).length ≤ s.data.toList.length := by
    unfold Lib.trimS Lib.trimLeftS Lib.trimRightS
    refine Nat.le_trans (List.dropWhile_sublist _).length_le ?_
    rw [List.length_reverse]
    refine Nat.le_trans (List.dropWhile_sublist _).length_le ?_
    rw [List.length_reverse]
    exact Nat.le_refl _
  have e : (trimT s).size = (Lib.trimS s.data.toList [32, 9]).length := by simp [trimT, ByteArray.size]
  rw [e]
  simpa using h
theorem pcs_small (n : Nat) : ∀ (l : List UInt8) (ins : Bool) (cur : List UInt8), l.length ≤ n → (∀ p ∈ pcs ins cur l, p.length ≤ cur.length + l.length) ∧ (pcs ins cur l).length ≤ l.length + 1 := by
  induction n with
  | zero => intro l ins cur h; have : l = [] := List.eq_nil_of_length_eq_zero (by omega); subst this; simp [pcs]
  | succ n ih =>
    intro l ins cur h
    rw [pcs_first l.length l ins cur (Nat.le_refl _)]
    split
    · rename_i hlt
      obtain ⟨h1, h2⟩ := ih (l.drop (peS ins l + 1)) false [] (by rw [List.length_drop]; omega)
      rw [List.length_drop] at h1 h2
      refine ⟨fun p hp => ?_, by simp only [List.length_cons]; omega⟩
      rcases List.mem_cons.1 hp with rfl | hp
      · simp only [List.length_append, List.length_take]; omega
      · have := h1 p hp; simp only [List.length_nil] at this; omega
    · refine ⟨fun p hp => ?_, by simp⟩
      have e : p = cur ++ l := by simpa using hp
      subst e; simp
theorem str_nil {t : ByteArray} (h : t.size = 0) : t = ⟨#[]⟩ := ByteArray.ext (Array.eq_empty_of_size_eq_zero h)
theorem str_some {v : ByteArray} (h : v.size ≠ 0) : v.toList.isEmpty = false := by
  rw [ByteArray.toList_eq]
  cases hh : v.data.toList with
  | nil => exact absurd (by have := congrArg List.length hh; simpa using this) h
  | cons c r => rfl
def ParseRes (s : ByteArray) (base : Nat) (e : Ending) (w : World) : Prop := ∃ v, e = .returned (.tuple #[v, .int .i64 (parseC s)]) ∧ OwnI w base v (parseL s)
theorem ParseRes.mk {s : ByteArray} {base : Nat} {w : World} {v : Value} {c : Int} {L : List Rec} (h : parseC s = c ∧ parseL s = L) (ho : OwnI w base v L) : ParseRes s base (.returned (.tuple #[v, .int .i64 c])) w := ⟨v, by rw [h.1], by rw [h.2]; exact ho⟩
set_option maxRecDepth 100000 in
set_option maxHeartbeats 8000000 in
theorem l2Parse_any (s : ByteArray) (w : World) (hs : ¬ 1000 < s.size) :
    Calls Tryz.prog 119 #[.string s] w fun e w' => ParseRes s w.heap.size e w' ∧ Below w.heap.size w w' := by
  obtain ⟨sm, sl⟩ := pcs_small s.data.toList.length s.data.toList false [] (Nat.le_refl _)
  rw [size_list] at sm sl
  simp only [List.length_nil, Nat.zero_add] at sm
  have R5 := @parse_bad s hs
  have R2 := fun L => @parse_many s L hs
  have R0 := fun L => @parse_ok s L hs
  have HP : ∀ w, Calls Tryz.prog 143 #[.string s] w fun e w' => (∃ g c, e = .returned (.slice (some ⟨g, 0, none⟩) (pcs false [] s.data.toList).length c) ∧ OwnS w' w.heap.size (.slice (some ⟨g, 0, none⟩) (pcs false [] s.data.toList).length c) ((pcs false [] s.data.toList).map mkB)) ∧ Below w.heap.size w w' := fun w => pieces_any s w (by omega)
  generalize pcs false [] s.data.toList = P at *
  have HSM : Hid (∀ p ∈ P, p.length ≤ s.size) := sm
  have HR5 : Hid (readP P = none → parseC s = 5 ∧ parseL s = []) := R5
  have HR2 : Hid (∀ L, readP P = some L → 20 < L.length → parseC s = 2 ∧ parseL s = []) := R2
  have HR0 : Hid (∀ L, readP P = some L → ¬ 20 < L.length → parseC s = 0 ∧ parseL s = L) := R0
  have HPP : Hid (∀ w, Calls Tryz.prog 143 #[.string s] w fun e w' => (∃ g c, e = .returned (.slice (some ⟨g, 0, none⟩) P.length c) ∧ OwnS w' w.heap.size (.slice (some ⟨g, 0, none⟩) P.length c) (P.map mkB)) ∧ Below w.heap.size w w') := HP
  clear sm R5 R2 R0 HP
  go_enter Tryz.func119, Tryz.ntmps119
  go_wp2_with fail
  refine (HPP.out _).mono ?_
  rintro e w1 ⟨⟨g, c, rfl, hat⟩, hb1⟩
  have HO1 : Hid (OwnI w1 w.heap.size (.slice (some ⟨w.heap.size, 0, none⟩) 0 0) []) := (OwnI.made0 w w.heap.size (Nat.le_refl _)).below hb1
  have HT : Hid (OwnS w1 0 (.slice (some ⟨g, 0, none⟩) P.length c) (P.map mkB)) := OwnS.lower hat (Nat.zero_le _)
  rw [World.size_alloc] at hb1
  have KB1 : Hid (Below w.heap.size w w1) := ((Below.refl _ _).alloc (Nat.le_refl _) _).trans (hb1.mono (Nat.le_succ _))
  generalize hn : P.length = n at *
  have HN : Hid (P.length = n) := hn
  clear hat hb1 HPP hn
  go_wp2_with fail
  go_loopw [4, 6] (fun v i wr => ∃ (k : Nat) (R : List Rec), k ≤ n ∧ R.length ≤ k ∧ i = .int .i64 k ∧ OwnI wr w.heap.size v R ∧ readP P = (readP (P.drop k)).map (R ++ ·) ∧ Below w.heap.size w wr ∧ OwnS wr 0 (.slice (some ⟨g, 0, none⟩) n c) (P.map mkB)) (fun _ i _ => n - (intOf i).toNat)
  case atStart => exact ⟨0, [], Nat.zero_le _, Nat.zero_le _, rfl, HO1.out, by simp, KB1.out, HT.out⟩
  case round =>
    obtain ⟨k, R, hk, hR, rfl, hown, hrd, hb, hat⟩ := hrel
    have HO : Hid (OwnI wr w.heap.size u4 R) := hown
    have HD : Hid (readP P = (readP (P.drop k)).map (R ++ ·)) := hrd
    have HB : Hid (Below w.heap.size w wr) := hb
    have HT : Hid (OwnS wr 0 (.slice (some ⟨g, 0, none⟩) n c) (P.map mkB)) := hat
    have hz := hb.size
    clear hown hrd hb hat HO1 KB1
    by_cases hlt : k < n
    · obtain ⟨p, hp⟩ : ∃ p, P[k]? = some p := ⟨P[k]'(by have := HN.out; omega), List.getElem?_eq_getElem _⟩
      have c1 : wr.cell? ⟨g, k, none⟩ = some (.string (mkB p)) := HT.out.texts k _ (by rw [List.getElem?_map, hp]; rfl)
      have hpz : (mkB p).size ≤ 1000 := by
        have h1 := HSM.out p (List.mem_of_getElem? hp)
        have h2 : (mkB p).size = p.length := by simp [mkB, ByteArray.size]
        omega
      have htz : (trimT (mkB p)).size ≤ 1000 := Nat.le_trans (trim_le _) hpz
      have hdr : P.drop k = p :: P.drop (k + 1) := by
        obtain ⟨hk2, rfl⟩ := List.getElem?_eq_some_iff.1 hp
        exact List.drop_eq_getElem_cons hk2
      have D1 : (trimT (mkB p)).size = 0 → readP P = (readP (P.drop (k + 1))).map (R ++ ·) := fun h => by rw [HD.out, hdr, readP_skip h]
      have D2 : (trimT (mkB p)).size ≠ 0 → readR (trimT (mkB p)) = none → readP P = none := fun h h2 => by rw [HD.out, hdr, readP_bad h h2]; rfl
      have D3 : ∀ r, (trimT (mkB p)).size ≠ 0 → readR (trimT (mkB p)) = some r → readP P = (readP (P.drop (k + 1))).map ((R ++ [r]) ++ ·) := fun r h h2 => by
        rw [HD.out, hdr, readP_take h h2, Option.map_map]
        congr 1
        funext x
        simp
      have gk : (k : Int) < n := by omega
      have LT := fun w => l1Trim_any (mkB p) w hpz
      clear hdr hp HD
      generalize trimT (mkB p) = t at *
      generalize mkB p = pb at *
      have HLT : Hid (∀ w, Calls Tryz.prog 86 #[.string pb] w fun e w' => e = .returned (.string t) ∧ w' = w) := LT
      clear LT
      by_cases ht0 : t.size = 0
      · have HX : Hid (readP P = (readP (P.drop (k + 1))).map (R ++ ·)) := D1 ht0
        have ht := str_nil ht0
        subst ht
        clear D1 D2 D3 ht0 htz
        go_wp2_with fail
        refine (HLT.out _).mono ?_
        rintro e w2 ⟨rfl, rfl⟩
        go_wp2_with fail
        go_roundw
        case rel => exact ⟨k + 1, R, by omega, by omega, by go_num, HO.out, HX.out, HB.out, HT.out⟩
        case measure => simp [intOf]; omega
      · have hte := str_some ht0
        have HD2 : Hid (readR t = none → readP P = none) := D2 ht0
        have HD3 : Hid (∀ r, readR t = some r → readP P = (readP (P.drop (k + 1))).map ((R ++ [r]) ++ ·)) := fun r => D3 r ht0
        clear D1 D2 D3 ht0
        go_wp2_with fail
        refine (HLT.out _).mono ?_
        rintro e w2 ⟨rfl, rfl⟩
        go_wp2_with fail
        refine (l2Item_any t _ htz).mono ?_
        rintro e w3 ⟨⟨r, b, rfl, y1, y2⟩, hb3⟩
        have HB3 : Hid (Below w.heap.size w w3) := HB.out.trans (hb3.mono hz)
        have hz3 := HB3.out.size
        have HO3 : Hid (OwnI w3 w.heap.size u4 R) := HO.out.below hb3
        have HT3 : Hid (OwnS w3 0 (.slice (some ⟨g, 0, none⟩) n c) (P.map mkB)) := HT.out.below hb3
        clear HB HO HT hb3 c1
        cases b
        · have HY := HR5.out (HD2.out (y2 rfl))
          have HYY : Hid (parseC s = 5 ∧ parseL s = []) := HY
          obtain ⟨rn, rh, rv⟩ := r
          clear y1 y2 HY HD2 HD3
          go_wp2_with fail
          go_ret2
          exact ⟨ParseRes.mk HYY.out (OwnI.nil _ _), HB3.out.alloc hz3 _⟩
        · have HY := HD3.out r (y1 rfl)
          have HYY : Hid (readP P = (readP (P.drop (k + 1))).map ((R ++ [r]) ++ ·)) := HY
          obtain ⟨rn, rh, rv⟩ := r
          clear y1 y2 HY HD2 HD3
          have HB4 : Hid (Below w.heap.size w (w3.alloc (.cells #[.string rn, .bool rh, .string rv] 65))) := HB3.out.alloc hz3 _
          have HO4 : Hid (OwnI (w3.alloc (.cells #[.string rn, .bool rh, .string rv] 65)) w.heap.size u4 R) := HO3.out.below ((Below.refl _ _).alloc (Nat.le_refl _) _)
          have HT4 : Hid (OwnS (w3.alloc (.cells #[.string rn, .bool rh, .string rv] 65)) 0 (.slice (some ⟨g, 0, none⟩) n c) (P.map mkB)) := HT3.out.below ((Below.refl _ _).alloc (Nat.le_refl _) _)
          have hz4 : w.heap.size ≤ (w3.alloc (.cells #[.string rn, .bool rh, .string rv] 65)).heap.size := HB4.out.size
          go_wp2_with (at_builtin; refine wpList_append_item _ rfl (.tmp 33) (.tmp 35) rfl w.heap.size _ R rn rh rv rfl (by simp [go_sem]) HO4.out (by omega) hz4 ?_; intro v5 w5 HO5 hb5 hz5 hk5)
          go_roundw
          case rel => exact ⟨k + 1, R ++ [⟨rn, rh, rv⟩], by omega, by simp; omega, by go_num, HO5, HYY.out, HB4.out.trans hb5, hk5 _ _ _ HT4.out⟩
          case measure => simp [intOf]; omega
    · have HX : Hid (readP P = some R) := by
        show _ = _
        rw [HD.out, List.drop_of_length_le (by have := HN.out; omega)]
        simp [readP]
      obtain ⟨ra, rc, rfl, _⟩ := HO.out.at
      have hRn : R.length ≤ 1001 := by omega
      clear HD
      by_cases hbig : 20 < R.length
      · have HY : Hid (parseC s = 2 ∧ parseL s = []) := HR2.out R HX.out hbig
        have gb : (20 : Int) < R.length := by omega
        clear HX
        go_wp2_with fail
        go_ret2
        exact ⟨ParseRes.mk HY.out (OwnI.nil _ _), HB.out⟩
      · have HY : Hid (parseC s = 0 ∧ parseL s = R) := HR0.out R HX.out hbig
        have gb : ¬ (20 : Int) < R.length := by omega
        clear HX
        go_wp2_with fail
        go_ret2
        exact ⟨ParseRes.mk HY.out HO.out, HB.out⟩
end Go.Proofs.YtgfbahjpaaanoaaGreatDoor
/-
  What quoteEnd answers.
-/
namespace Go.Proofs.YtgfbahjpaaanoaaGreatDoor
open Go.ChangeShapes Go.WideShapes Go.ChangeAt Go.RowKit
set_option maxHeartbeats 1000000 in
theorem quoteEnd_any (s : ByteArray) (b : Nat) (w : World) (hs : s.size ≤ 1048576) (hb : b < s.size) :
    Calls Tryz.prog 128 #[.string s, .int .i64 b] w fun e w' => e = .returned (.int .i64 (qEnd s.data.toList b : Int)) ∧ w' = w := by
  go_enter Tryz.func128, Tryz.ntmps128
  go_wp2
  go_loop [5] (fun i => ∃ k : Nat, i = .int .i64 k ∧ ((k ≤ s.size ∧ qEnd s.data.toList b = k + qLen (s.data.toList.drop k)) ∨ (k = s.size + 1 ∧ qEnd s.data.toList b = s.size))) (fun i => s.size + 1 - (intOf i).toNat)
  case atStart => exact ⟨b + 1, by go_num, .inl ⟨by omega, rfl⟩⟩
  case round =>
    obtain ⟨k, rfl, hk⟩ := hrel
    by_cases hlt : k < s.size
    · have HK : Hid (qEnd s.data.toList b = k + qLen (s.data.toList.drop k)) := by
        rcases hk with hk | hk
        · exact hk.2
        · omega
      have HD : Hid (s.data.toList.drop k = s[k] :: s.data.toList.drop (k + 1)) := drop_at s k hlt
      clear hk
      by_cases c1 : (s[k].toNat : Int) = 34
      · have e1 : ((s[k].toNat : Int) == 34) = true := by simpa using c1
        have e2 : ((s[k].toNat : Int) == 92) = false := by simp; omega
        have HE : Hid ((k : Int) = (qEnd s.data.toList b : Int)) := by
          show _ = _
          rw [HK.out, HD.out, qLen_end _ _ c1]; omega
        clear HK HD c1
        go_wp2
        go_ret
        exact ⟨ret_int HE.out, rfl⟩
      · have e1 : ((s[k].toNat : Int) == 34) = false := by simpa using c1
        by_cases c2 : (s[k].toNat : Int) = 92
        · have e2 : ((s[k].toNat : Int) == 92) = true := by simpa using c2
          have HE : Hid ((k + 2 ≤ s.size ∧ qEnd s.data.toList b = (k + 2) + qLen (s.data.toList.drop (k + 2))) ∨ (k + 2 = s.size + 1 ∧ qEnd s.data.toList b = s.size)) := by
            show _ ∨ _
            by_cases hl : k + 1 = s.size
            · right
              refine ⟨by omega, ?_⟩
              rw [HK.out, HD.out, show s.data.toList.drop (k + 1) = [] from List.drop_of_length_le (by simp; omega), qLen_cut _ c2]; omega
            · left
              refine ⟨by omega, ?_⟩
              rw [HK.out, HD.out, drop_at s (k + 1) (by omega), qLen_esc _ _ _ c2, show k + 1 + 1 = k + 2 from rfl]; omega
          clear HK HD c1 c2
          go_wp2
          go_round
          case rel => exact ⟨k + 2, by go_num, HE.out⟩
          case measure => simp [intOf]; omega
        · have e2 : ((s[k].toNat : Int) == 92) = false := by simpa using c2
          have HE : Hid (k + 1 ≤ s.size ∧ qEnd s.data.toList b = (k + 1) + qLen (s.data.toList.drop (k + 1))) := by
            show _ ∧ _
            refine ⟨by omega, ?_⟩
            rw [HK.out, HD.out, qLen_take _ _ c1 c2]; omega
          clear HK HD c1 c2
          go_wp2
          go_round
          case rel => exact ⟨k + 1, by go_num, .inl HE.out⟩
          case measure => simp [intOf]; omega
    · have HE : Hid ((s.size : Int) = (qEnd s.data.toList b : Int)) := by
        show _ = _
        rcases hk with hk | hk
        · rw [hk.2, show s.data.toList.drop k = [] from List.drop_of_length_le (by simp; omega)]; simp [qLen]; omega
        · rw [hk.2]
      clear hk
      go_wp2
      go_ret
      exact ⟨ret_int HE.out, rfl⟩
set_option maxHeartbeats 400000 in
theorem hasQuote_any (s : ByteArray) (w : World) (hs : s.size ≤ 1048576) :
    Calls Tryz.prog 153 #[.string s, .string ⟨#[34]⟩] w fun e w' => e = .returned (.bool (decide (s.data.toList.head? = some 34))) ∧ w' = w := by
  by_cases h : s.size < 1
  · have HE : Hid (decide (s.data.toList.head? = some 34) = false) := by
      show _ = _
      have : s.data.toList = [] := List.eq_nil_of_length_eq_zero (by have := size_list s; omega)
      rw [this]; simp
    go_enter Tryz.func153, Tryz.ntmps153
    go_wp2
    go_ret
    exact ⟨ret_bool HE.out.symm, rfl⟩
  · have HE : Hid (((s.extract 0 1).toList == [34]) = decide (s.data.toList.head? = some 34)) := by
      show _ = _
      have h0 : 0 < s.size := by omega
      have e1 := drop_at s 0 h0
      rw [List.drop_zero] at e1
      have e2 : (s.extract 0 1).toList = [s[0]] := by
        rw [ByteArray.toList_eq, ByteArray.data_extract, Array.toList_extract, List.extract_eq_take_drop, List.drop_zero, e1]; rfl
      rw [e2, e1]
      simp only [List.head?_cons, Option.some.injEq]
      by_cases c : s[0] = 34
      · rw [c]; rfl
      · simp [c]
    go_enter Tryz.func153, Tryz.ntmps153
    go_wp2
    go_ret
    exact ⟨ret_bool HE.out, rfl⟩
end Go.Proofs.YtgfbahjpaaanoaaGreatDoor
/-
  What pieceEnd answers.
-/
namespace Go.Proofs.YtgfbahjpaaanoaaGreatDoor
open Go.ChangeShapes Go.WideShapes Go.ChangeAt Go.RowKit
/-- Where the piece that begins at b ends. -/
def pEnd (l : List UInt8) (b : Nat) : Nat := b + peS false (l.drop b)
theorem pEnd_quote (s : ByteArray) (k : Nat) (hk : k < s.size) (hc : (s[k].toNat : Int) = 34) :
    (qEnd s.data.toList k + 1 ≤ s.size ∧ k + peS false (s.data.toList.drop k) = (qEnd s.data.toList k + 1) + peS false (s.data.toList.drop (qEnd s.data.toList k + 1))) ∨ (qEnd s.data.toList k + 1 = s.size + 1 ∧ k + peS false (s.data.toList.drop k) = s.size) := by
  have hz := size_list s
  have hr : (s.data.toList.drop (k + 1)).length = s.size - (k + 1) := by rw [List.length_drop, hz]
  have hq := qLen_le (s.data.toList.drop (k + 1))
  have e : k + peS false (s.data.toList.drop k) = k + 1 + peS true (s.data.toList.drop (k + 1)) := by
    rw [drop_at s k hk, peS_quote hc]; simp only [Bool.not_false]; omega
  rw [e, peS_in _ (s.data.toList.drop (k + 1)) (Nat.le_refl _)]
  unfold qEnd
  by_cases q : qLen (s.data.toList.drop (k + 1)) < (s.data.toList.drop (k + 1)).length
  · left
    rw [if_pos q, List.drop_drop]
    refine ⟨by omega, ?_⟩
    rw [show k + 1 + (qLen (s.data.toList.drop (k + 1)) + 1) = k + 1 + qLen (s.data.toList.drop (k + 1)) + 1 from by omega]
    omega
  · right
    rw [if_neg q]
    omega
set_option maxHeartbeats 2000000 in
theorem pieceEnd_any (s : ByteArray) (b : Nat) (w : World) (hs : s.size ≤ 1000) (hb : b < s.size) :
    Calls Tryz.prog 105 #[.string s, .int .i64 b] w fun e w' => e = .returned (.int .i64 (pEnd s.data.toList b : Int)) ∧ w' = w := by
  have hz := size_list s
  go_enter Tryz.func105, Tryz.ntmps105
  go_wp2
  go_step3
  go_wp2
  go_step3
  go_wp2
  go_loop [5] (fun i => ∃ k : Nat, i = .int .i64 k ∧ ((k ≤ s.size ∧ pEnd s.data.toList b = k + peS false (s.data.toList.drop k)) ∨ (k = s.size + 1 ∧ pEnd s.data.toList b = s.size))) (fun i => s.size + 1 - (intOf i).toNat)
  case atStart => exact ⟨b, rfl, .inl ⟨by omega, rfl⟩⟩
  case round =>
    obtain ⟨k, rfl, hk⟩ := hrel
    by_cases hlt : k < s.size
    · have HK : Hid (pEnd s.data.toList b = k + peS false (s.data.toList.drop k)) := by
        rcases hk with hk | hk
        · exact hk.2
        · omega
      clear hk
      by_cases c1 : (s[k].toNat : Int) = 34
      · have e1 : ((s[k].toNat : Int) == 34) = true := by simpa using c1
        have hq := pEnd_quote s k hlt c1
        have hqk : k ≤ qEnd s.data.toList k := by unfold qEnd; omega
        have HQ := quoteEnd_any s k w (by omega) hlt
        generalize qEnd s.data.toList k = q at *
        have HX : Hid ((q + 1 ≤ s.size ∧ pEnd s.data.toList b = (q + 1) + peS false (s.data.toList.drop (q + 1))) ∨ (q + 1 = s.size + 1 ∧ pEnd s.data.toList b = s.size)) := by
          rw [HK.out]; exact hq
        have hq1 : q ≤ s.size := by rcases hq with h | h <;> omega
        clear hq HK c1
        go_wp2_with fail
        refine HQ.mono ?_
        rintro e w1 ⟨rfl, rfl⟩
        go_wp2_with fail
        go_round
        case rel => exact ⟨q + 1, by go_num, HX.out⟩
        case measure => simp [intOf]; omega
      · have e1 : ((s[k].toNat : Int) == 34) = false := by simpa using c1
        by_cases c2 : (s[k].toNat : Int) = 44
        · have e2 : ((s[k].toNat : Int) == 44) = true := by simpa using c2
          have HX : Hid ((k : Int) = (pEnd s.data.toList b : Int)) := by
            show _ = _
            rw [HK.out, drop_at s k hlt, peS_comma c2]; omega
          have hm : min (k : Int) (s.size : Int) = k := by omega
          clear HK c1 c2
          go_wp2_with fail
          go_ret
          exact ⟨ret_int HX.out, rfl⟩
        · have e2 : ((s[k].toNat : Int) == 44) = false := by simpa using c2
          have HX : Hid (k + 1 ≤ s.size ∧ pEnd s.data.toList b = (k + 1) + peS false (s.data.toList.drop (k + 1))) := by
            show _ ∧ _
            refine ⟨by omega, ?_⟩
            rw [HK.out, drop_at s k hlt, peS_take (by simp) c1 (fun x => c2 x.1)]; omega
          clear HK c1 c2
          go_wp2_with fail
          go_round
          case rel => exact ⟨k + 1, by go_num, .inl HX.out⟩
          case measure => simp [intOf]; omega
    · have HX : Hid ((s.size : Int) = (pEnd s.data.toList b : Int)) := by
        show _ = _
        rcases hk with hk | hk
        · rw [hk.2, show s.data.toList.drop k = [] from List.drop_of_length_le (by omega)]; simp [peS]; omega
        · rw [hk.2]
      have hm : min (k : Int) (s.size : Int) = s.size := by omega
      clear hk
      go_wp2_with fail
      go_ret
      exact ⟨ret_int HX.out, rfl⟩
end Go.Proofs.YtgfbahjpaaanoaaGreatDoor
/-
  What the pieces of a text tell, one behind the other, plainly.
-/
namespace Go.Proofs.YtgfbahjpaaanoaaGreatDoor
/-- The pieces, trimmed, without the empty ones. -/
def trims : List (List UInt8) → List ByteArray
  | [] => []
  | p :: ps => if (trimT (mkB p)).size = 0 then trims ps else trimT (mkB p) :: trims ps
theorem trims_skip {p : List UInt8} {ps : List (List UInt8)} (h : (trimT (mkB p)).size = 0) : trims (p :: ps) = trims ps := by rw [trims, if_pos h]
theorem trims_take {p : List UInt8} {ps : List (List UInt8)} (h : (trimT (mkB p)).size ≠ 0) : trims (p :: ps) = trimT (mkB p) :: trims ps := by rw [trims, if_neg h]
theorem trims_len : ∀ ps : List (List UInt8), (trims ps).length ≤ ps.length
  | [] => Nat.le_refl _
  | p :: ps => by
    have := trims_len ps
    rw [trims]
    split <;> simp only [List.length_cons] <;> omega
/-- What is told of a trimmed piece: an item and its code. -/
def Tells (t : ByteArray) (x : Rec × Int) : Prop := (x.2 = 0 ∧ readR t = some x.1) ∨ (x.2 = 5 ∧ readR t = none)
def AllTell : List ByteArray → List (Rec × Int) → Prop
  | [], [] => True
  | t :: d, x :: xs => Tells t x ∧ AllTell d xs
  | _, _ => False
theorem readP_all : ∀ (ps : List (List UInt8)) (xs : List (Rec × Int)), AllTell (trims ps) xs → (∀ x ∈ xs, x.2 = 0) → readP ps = some (xs.map (·.1))
  | [], [], _, _ => rfl
  | [], _ :: _, h, _ => h.elim
  | p :: ps, xs, h, h0 => by
    by_cases c : (trimT (mkB p)).size = 0
    · rw [trims_skip c] at h
      rw [readP_skip c]
      exact readP_all ps xs h h0
    · rw [trims_take c] at h
      match xs, h, h0 with
      | x :: xs, ⟨hx, ht⟩, h0 =>
        have hx0 := h0 x (by simp)
        rcases hx with hx | hx
        · rw [readP_take c hx.2, readP_all ps xs ht (fun y hy => h0 y (by simp [hy]))]
          rfl
        · omega
theorem readP_none : ∀ (ps : List (List UInt8)) (t : ByteArray), t ∈ trims ps → readR t = none → readP ps = none
  | [], t, h, _ => by simp [trims] at h
  | p :: ps, t, h, hr => by
    by_cases c : (trimT (mkB p)).size = 0
    · rw [trims_skip c] at h
      rw [readP_skip c]
      exact readP_none ps t h hr
    · rw [trims_take c] at h
      cases hq : readR (trimT (mkB p)) with
      | none => exact readP_bad c hq
      | some r =>
        rcases List.mem_cons.1 h with rfl | h
        · rw [hq] at hr; cases hr
        · rw [readP_take c hq, readP_none ps t h hr]; rfl
theorem trim_nothing : (trimT (mkB [])).size = 0 := by
  have := trim_le (mkB [])
  have e : (mkB []).size = 0 := rfl
  omega
theorem trims_nil : trims (pcs false [] []) = [] := by
  rw [show pcs false [] [] = [[]] from rfl, trims_skip trim_nothing]
  rfl
/-- One piece further on. -/
theorem trims_step (s : ByteArray) (b : Nat) (hb : b < s.size) :
    trims (pcs false [] (s.data.toList.drop b)) = trims ([(s.data.toList.drop b).take (pEnd s.data.toList b - b)] ++ (if pEnd s.data.toList b + 1 ≤ s.size then pcs false [] (s.data.toList.drop (pEnd s.data.toList b + 1)) else [])) := by
  have hz := size_list s
  have hl : (s.data.toList.drop b).length = s.size - b := by rw [List.length_drop, hz]
  have hp := peS_le _ (s.data.toList.drop b) false (Nat.le_refl _)
  rw [pcs_first _ (s.data.toList.drop b) false [] (Nat.le_refl _)]
  unfold pEnd
  rw [show b + peS false (s.data.toList.drop b) - b = peS false (s.data.toList.drop b) from by omega]
  by_cases q : peS false (s.data.toList.drop b) < (s.data.toList.drop b).length
  · rw [if_pos q, if_pos (by omega), List.drop_drop, List.nil_append, show b + (peS false (s.data.toList.drop b) + 1) = b + peS false (s.data.toList.drop b) + 1 from by omega]
    rfl
  · rw [if_neg q, if_neg (by omega), List.take_of_length_le (by omega)]
    rfl
/-- Where the teller stands: done is what it has told of. -/
def TellAt (s : ByteArray) (done : List ByteArray) (b : Nat) : Prop := (b ≤ s.size ∧ trims (pcs false [] s.data.toList) = done ++ trims (pcs false [] (s.data.toList.drop b))) ∨ (b = s.size + 1 ∧ trims (pcs false [] s.data.toList) = done)
theorem TellAt.over {s : ByteArray} {done : List ByteArray} {b : Nat} (h : TellAt s done b) (hb : ¬ b < s.size) : trims (pcs false [] s.data.toList) = done := by
  have hz := size_list s
  rcases h with h | h
  · rw [h.2, List.drop_of_length_le (by omega), trims_nil, List.append_nil]
  · exact h.2
theorem TellAt.skip {s : ByteArray} {done : List ByteArray} {b : Nat} (h : TellAt s done b) (hb : b < s.size) (ht : (trimT (mkB ((s.data.toList.drop b).take (pEnd s.data.toList b - b)))).size = 0) : TellAt s done (pEnd s.data.toList b + 1) := by
  have hz := size_list s
  have hp := peS_le _ (s.data.toList.drop b) false (Nat.le_refl _)
  rw [List.length_drop, hz] at hp
  rcases h with h | h
  · have e := h.2
    rw [trims_step s b hb, List.singleton_append, trims_skip ht] at e
    by_cases q : pEnd s.data.toList b + 1 ≤ s.size
    · rw [if_pos q] at e; exact .inl ⟨q, e⟩
    · rw [if_neg q] at e
      refine .inr ⟨by unfold pEnd at q ⊢; omega, by rw [e]; simp [trims]⟩
  · omega
theorem TellAt.take {s : ByteArray} {done : List ByteArray} {b : Nat} (h : TellAt s done b) (hb : b < s.size) (ht : (trimT (mkB ((s.data.toList.drop b).take (pEnd s.data.toList b - b)))).size ≠ 0) :
    TellAt s (done ++ [trimT (mkB ((s.data.toList.drop b).take (pEnd s.data.toList b - b)))]) (pEnd s.data.toList b + 1) ∧ (done ++ [trimT (mkB ((s.data.toList.drop b).take (pEnd s.data.toList b - b)))]) <+: trims (pcs false [] s.data.toList) := by
  have hz := size_list s
  have hp := peS_le _ (s.data.toList.drop b) false (Nat.le_refl _)
  rw [List.length_drop, hz] at hp
  rcases h with h | h
  · have e := h.2
    rw [trims_step s b hb, List.singleton_append, trims_take ht] at e
    refine ⟨?_, ?_⟩
    · by_cases q : pEnd s.data.toList b + 1 ≤ s.size
      · rw [if_pos q] at e; exact .inl ⟨q, by rw [e]; simp⟩
      · rw [if_neg q] at e
        exact .inr ⟨by unfold pEnd at q ⊢; omega, by rw [e]; simp [trims]⟩
    · rw [e]
      refine ⟨trims (if pEnd s.data.toList b + 1 ≤ s.size then pcs false [] (s.data.toList.drop (pEnd s.data.toList b + 1)) else []), ?_⟩
      rw [List.append_assoc]
      rfl
  · omega
theorem tells_snoc : ∀ {d : List ByteArray} {xs : List (Rec × Int)} {t : ByteArray} {x : Rec × Int}, AllTell d xs → Tells t x → AllTell (d ++ [t]) (xs ++ [x])
  | [], [], _, _, _, hx => ⟨hx, trivial⟩
  | _ :: _, _ :: _, _, _, h, hx => ⟨h.1, tells_snoc h.2 hx⟩
theorem tells_len : ∀ {d : List ByteArray} {xs : List (Rec × Int)}, AllTell d xs → d.length = xs.length
  | [], [], _ => rfl
  | _ :: _, _ :: _, h => by simp [tells_len h.2]
theorem tells_last : ∀ {d : List ByteArray} {xs : List (Rec × Int)} {x : Rec × Int}, AllTell d (xs ++ [x]) → ∃ t ∈ d, Tells t x
  | [], [], _, h => h.elim
  | [], _ :: _, _, h => h.elim
  | t :: _, [], _, h => ⟨t, by simp, h.1⟩
  | _ :: _, _ :: _, _, h => by
    obtain ⟨t, ht, hx⟩ := tells_last h.2
    exact ⟨t, by simp [ht], hx⟩
end Go.Proofs.YtgfbahjpaaanoaaGreatDoor
/-
  strings.Cut at a sign that stands alone.
-/
namespace Go.Proofs.YtgfbahjpaaanoaaGreatDoor
open Go.ChangeShapes Go.WideShapes Go.ChangeAt Go.RowKit Go.Sort
theorem idx_eq : ∀ l : List UInt8, Lib.indexByte l 61 = if eqAt l < l.length then (eqAt l : Int) else -1
  | [] => by simp [Lib.indexByte, eqAt]
  | c :: r => by
    have ih := idx_eq r
    rw [Lib.indexByte, eqAt]
    by_cases h : (c.toNat : Int) = 61
    · have hc : c = 61 := UInt8.toNat_inj.1 (by simpa using (by omega : c.toNat = 61))
      rw [if_pos (by rw [hc]; rfl), if_pos h]
      simp
    · have hc : ¬ (c == 61) = true := by
        intro e
        have e2 : c = 61 := by simpa using e
        rw [e2] at h
        exact h rfl
      rw [if_neg hc, if_neg h, ih]
      by_cases q : eqAt r < r.length
      · have e1 : ¬ ((eqAt r : Int) == -1) = true := by simp
        rw [if_pos q, if_neg e1, if_pos (by simp only [List.length_cons]; omega)]
        omega
      · rw [if_neg q, if_pos (by rfl), if_neg (by simp only [List.length_cons]; omega)]
theorem index_lib (s : ByteArray) (w : World) :
    Calls Tryz.prog 168 #[.string s, .string ⟨#[61]⟩] w fun e w' => e = .returned (.int .i64 (Lib.indexByte s.data.toList 61)) ∧ w' = w :=
  Any.stringslite_Index_one Tryz.lays219 s 61 w
set_option maxRecDepth 100000 in
set_option maxHeartbeats 2000000 in
theorem cut_yes (s : ByteArray) (w : World) (hs : s.size ≤ 1000) (h : eqAt s.data.toList < s.size) :
    Calls Tryz.prog 152 #[.string s, .string ⟨#[61]⟩] w fun e w' => e = .returned (.tuple #[.string (s.extract 0 (eqAt s.data.toList)), .string (s.extract (eqAt s.data.toList + 1) s.size), .bool true]) ∧ Below w.heap.size w w' := by
  have HI := index_lib s w
  rw [idx_eq, if_pos (by rw [size_list]; exact h)] at HI
  generalize eqAt s.data.toList = k at *
  have g0 : (0 : Int) ≤ k := by omega
  have g1 : (k : Int) ≤ s.size := by omega
  have g2 : (k : Int) + 1 ≤ s.size := by omega
  go_enter Tryz.func152, Tryz.ntmps152
  go_wp2_with fail
  refine HI.mono ?_
  rintro e w1 ⟨rfl, rfl⟩
  go_wp2_with fail
  refine wp_region_quiet_below (by kernel_rfl) (by kernel_rfl) ?_
  repeat (go_big_quiet_step (fail))
  refine wpQuiet_nil ?_
  intro W2 hW2
  have hbW2 : Below w1.heap.size w1 W2 := by
    obtain ⟨⟨d, os⟩, rfl⟩ := hW2
    exact below_regrown w1 d os
  clear hW2
  go_wp2_with fail
  exact bodyPost_ret (v := .tuple #[.string (s.extract 0 k), .string (s.extract (k + 1) s.size), .bool true]) (by simp [results, Tryz.results152, go_sem]) rfl ⟨rfl, hbW2⟩
set_option maxHeartbeats 2000000 in
theorem cut_no (s : ByteArray) (w : World) (h : ¬ eqAt s.data.toList < s.size) :
    Calls Tryz.prog 152 #[.string s, .string ⟨#[61]⟩] w fun e w' => e = .returned (.tuple #[.string s, .string ⟨#[]⟩, .bool false]) ∧ Below w.heap.size w w' := by
  have HI := index_lib s w
  rw [idx_eq, if_neg (by rw [size_list]; exact h)] at HI
  go_enter Tryz.func152, Tryz.ntmps152
  go_wp2_with fail
  refine HI.mono ?_
  rintro e w1 ⟨rfl, rfl⟩
  go_wp2_with fail
  exact bodyPost_ret (v := .tuple #[.string s, .string ⟨#[]⟩, .bool false]) (by simp [results, Tryz.results152, go_sem]) rfl ⟨rfl, Below.refl _ _⟩
set_option maxHeartbeats 2000000 in
theorem cutS_of (s : ByteArray) (w : World) (a b : ByteArray) (h : Bool) (hc : Calls Tryz.prog 152 #[.string s, .string ⟨#[61]⟩] w fun e w' => e = .returned (.tuple #[.string a, .string b, .bool h]) ∧ Below w.heap.size w w') :
    Calls Tryz.prog 129 #[.string s, .string ⟨#[61]⟩] w fun e w' => e = .returned (.tuple #[.string a, .string b, .bool h]) ∧ Below w.heap.size w w' := by
  go_enter Tryz.func129, Tryz.ntmps129
  go_wp2_with fail
  refine hc.mono ?_
  rintro e w1 ⟨rfl, hb⟩
  go_wp2_with fail
  exact bodyPost_ret (v := .tuple #[.string a, .string b, .bool h]) (by simp [results, Tryz.results129, go_sem]) rfl ⟨rfl, hb⟩
end Go.Proofs.YtgfbahjpaaanoaaGreatDoor
/-
  What UnquoteText answers.
-/
namespace Go.Proofs.YtgfbahjpaaanoaaGreatDoor
open Go.ChangeShapes Go.WideShapes Go.ChangeAt Go.RowKit
set_option maxHeartbeats 400000 in
theorem implUnquote_long (s : ByteArray) (w : World) (h : 2002 < s.size) :
    Calls Tryz.prog 130 #[.string s] w fun e w' => e = .returned (.agg #[.int .i64 2, .string ⟨#[]⟩]) ∧ Below w.heap.size w w' := by
  have hh : (2002 : Int) < s.size := by omega
  go_enter Tryz.func130, Tryz.ntmps130
  go_wp2
  exact bodyPost_ret (v := .agg #[.int .i64 2, .string ⟨#[]⟩]) (by simp [results, Tryz.results130, go_sem]) rfl ⟨rfl, (Below.refl _ _).alloc (Nat.le_refl _) _⟩
set_option maxHeartbeats 1000000 in
theorem implUnquote_bad (s : ByteArray) (w : World) (hs : s.size ≤ 2002) (hp : unqB s = false) :
    Calls Tryz.prog 130 #[.string s] w fun e w' => e = .returned (.agg #[.int .i64 5, .string ⟨#[]⟩]) ∧ Below w.heap.size w w' := by
  have hh : ¬ (2002 : Int) < s.size := by omega
  rw [unqB_ends] at hp
  by_cases h1 : s.data.toList.head? = some 34
  · have H1 : Hid (decide (s.data.toList.head? = some 34) = true) := by show _ = _; simpa using h1
    have h0 : 0 < s.size := by
      cases e : s.data.toList with
      | nil => rw [e] at h1; simp at h1
      | cons c t => have := size_list s
                    rw [e] at this; simp only [List.length_cons] at this; omega
    have H2 := quoteEnd_any s 0 (w.alloc (.cells #[.int .i64 0, .string ⟨#[]⟩] 98)) (by omega) h0
    by_cases h2 : qEnd s.data.toList 0 + 1 = s.size
    · have HP : Hid (plainL s.data.toList = false) := by
        show _ = _
        rw [H1.out, show decide (qEnd s.data.toList 0 + 1 = s.size) = true from by simpa using h2] at hp
        simpa using hp
      generalize qEnd s.data.toList 0 = q at *
      have e2 : ((q : Int) != (s.size : Int) - 1) = false := by simp; omega
      clear hp h1
      go_enter Tryz.func130, Tryz.ntmps130
      go_wp2_with fail
      refine (hasQuote_any s _ (by omega)).mono ?_
      rintro e w1 ⟨rfl, rfl⟩
      rw [H1.out]
      go_wp2_with fail
      refine H2.mono ?_
      rintro e w1 ⟨rfl, rfl⟩
      go_wp2_with fail
      refine (allPlain_any s _ (by omega)).mono ?_
      rintro e w1 ⟨rfl, rfl⟩
      rw [HP.out]
      go_wp2
      exact bodyPost_ret (v := .agg #[.int .i64 5, .string ⟨#[]⟩]) (by simp [results, Tryz.results130, go_sem]) rfl ⟨rfl, (Below.refl _ _).alloc (Nat.le_refl _) _⟩
    · have hq := qLen_le (s.data.toList.drop 1)
      generalize hqe : qEnd s.data.toList 0 = q at *
      have e2 : ((q : Int) != (s.size : Int) - 1) = true := by simp; omega
      clear hp h1
      go_enter Tryz.func130, Tryz.ntmps130
      go_wp2_with fail
      refine (hasQuote_any s _ (by omega)).mono ?_
      rintro e w1 ⟨rfl, rfl⟩
      rw [H1.out]
      go_wp2_with fail
      refine H2.mono ?_
      rintro e w1 ⟨rfl, rfl⟩
      go_wp2_with fail
      exact bodyPost_ret (v := .agg #[.int .i64 5, .string ⟨#[]⟩]) (by simp [results, Tryz.results130, go_sem]) rfl ⟨rfl, (Below.refl _ _).alloc (Nat.le_refl _) _⟩
  · have H1 : Hid (decide (s.data.toList.head? = some 34) = false) := by show _ = _; simpa using h1
    clear hp h1
    go_enter Tryz.func130, Tryz.ntmps130
    go_wp2_with fail
    refine (hasQuote_any s _ (by omega)).mono ?_
    rintro e w1 ⟨rfl, rfl⟩
    rw [H1.out]
    go_wp2_with fail
    exact bodyPost_ret (v := .agg #[.int .i64 5, .string ⟨#[]⟩]) (by simp [results, Tryz.results130, go_sem]) rfl ⟨rfl, (Below.refl _ _).alloc (Nat.le_refl _) _⟩
/-- One byte further on, where the quotes end as they should. -/
theorem unq_last {acc l : List UInt8} (h : (unq acc l).2 = true) (hl : l.length = 1) : (unq acc l).1 = acc := by
  match l, hl with
  | [c], _ =>
    by_cases e : (c.toNat : Int) = 34
    · simp only [unq, if_pos e]
    · simp only [unq, if_neg e] at h; cases h
theorem unq_far {acc l : List UInt8} (h : (unq acc l).2 = true) : l ≠ [] := by
  intro e; subst e; simp [unq] at h
set_option maxHeartbeats 4000000 in
theorem implUnquote_any (s : ByteArray) (w : World) (hs : s.size ≤ 2002) (hp : unqB s = true) :
    Calls Tryz.prog 130 #[.string s] w fun e w' => e = .returned (.agg #[.int .i64 0, .string (unqS s)]) ∧ Below w.heap.size w w' := by
  have hh : ¬ (2002 : Int) < s.size := by omega
  have HB : Hid (unqB s = true) := hp
  rw [unqB_ends, Bool.and_eq_true, Bool.and_eq_true, decide_eq_true_iff, decide_eq_true_iff] at hp
  obtain ⟨⟨h1, h2⟩, h3⟩ := hp
  have H1 : Hid (decide (s.data.toList.head? = some 34) = true) := by show _ = _; simpa using h1
  have hq0 : 1 ≤ qEnd s.data.toList 0 := by unfold qEnd; omega
  have h0 : 0 < s.size := by omega
  have HT : Hid (unqT s.data.toList = unq [] (s.data.toList.drop 1)) := unqT_go (by have := size_list s; omega) h1 h3
  have HP : Hid (plainL s.data.toList = true) := h3
  have H2 := quoteEnd_any s 0 (w.alloc (.cells #[.int .i64 0, .string ⟨#[]⟩] 98)) (by omega) h0
  generalize qEnd s.data.toList 0 = q at *
  have e2 : ((q : Int) != (s.size : Int) - 1) = false := by simp; omega
  clear h1 h3
  go_enter Tryz.func130, Tryz.ntmps130
  go_wp2_with fail
  refine (hasQuote_any s _ (by omega)).mono ?_
  rintro e w1 ⟨rfl, rfl⟩
  rw [H1.out]
  go_wp2_with fail
  refine H2.mono ?_
  rintro e w1 ⟨rfl, rfl⟩
  go_wp2_with fail
  refine (allPlain_any s _ (by omega)).mono ?_
  rintro e w1 ⟨rfl, rfl⟩
  rw [HP.out]
  clear HP H1
  go_wp2
  go_loopw [3, 4] (fun v i wr => ∃ (k : Nat) (acc : List UInt8), k < s.size ∧ acc.length ≤ k ∧ i = .int .i64 k ∧ OwnR wr (w.heap.size + 1) v acc ∧ unqT s.data.toList = unq acc (s.data.toList.drop k) ∧ Below (w.heap.size + 1) (w.alloc (.cells #[.int .i64 0, .string ⟨#[]⟩] 98)) wr) (fun _ i _ => s.size - (intOf i).toNat)
  case atStart => exact ⟨1, [], by omega, by simp, rfl, OwnR.nil _ _, HT.out, Below.refl _ _⟩
  case round =>
    obtain ⟨k, acc, hk, ha, rfl, hown, hq, hb⟩ := hrel
    have HO : Hid (OwnR wr (w.heap.size + 1) u3 acc) := hown
    have HQ : Hid (unqT s.data.toList = unq acc (s.data.toList.drop k)) := hq
    have HR : Hid ((unq acc (s.data.toList.drop k)).2 = true) := by
      show _ = _
      rw [← HQ.out]; exact HB.out
    have hz : w.heap.size + 1 ≤ wr.heap.size := by have := hb.size; rwa [World.size_alloc] at this
    have HD : Hid (s.data.toList.drop k = s[k] :: s.data.toList.drop (k + 1)) := drop_at s k hk
    clear hown hq HT
    by_cases hlt : k + 1 < s.size
    · have g0 : (k : Int) < (s.size : Int) - 1 := by omega
      by_cases c2 : (s[k].toNat : Int) = 92
      · have e2 : ((s[k].toNat : Int) == 92) = true := by simpa using c2
        have HE : Hid (unqT s.data.toList = unq (acc ++ [s[k + 1]]) (s.data.toList.drop (k + 2))) := by
          show _ = _
          rw [HQ.out, HD.out, drop_at s (k + 1) hlt, unq_esc _ _ _ _ c2]
        have hk2 : k + 2 < s.size := by
          have h := HB.out
          unfold unqB at h
          rw [HE.out] at h
          have h4 := unq_far h
          have := size_list s
          by_cases h5 : k + 2 < s.size
          · exact h5
          · exact absurd (List.drop_of_length_le (by omega)) h4
        clear HQ HD HR c2
        go_wp2_with (at_builtin; refine wpList_append_byteR _ rfl (.tmp 39) (.tmp 43) rfl (w.heap.size + 1) _ acc _ s[k + 1] rfl rfl HO.out rfl (by omega) hz ?_; intro v2 w2 HO2 hb2 hz2)
        go_roundw
        case rel => exact ⟨k + 2, acc ++ [s[k + 1]], hk2, by simp; omega, by go_num, HO2, HE.out, hb.trans hb2⟩
        case measure => simp [intOf]; omega
      · have e2 : ((s[k].toNat : Int) == 92) = false := by simpa using c2
        have c1 : ¬ (s[k].toNat : Int) = 34 := by
          intro c1
          have h := HR.out
          rw [HD.out, unq_end _ _ _ c1] at h
          have := size_list s
          simp at h
          omega
        have HE : Hid (unqT s.data.toList = unq (acc ++ [s[k]]) (s.data.toList.drop (k + 1))) := by
          show _ = _
          rw [HQ.out, HD.out, unq_take _ _ _ c1 c2]
        clear HQ HD HR c2 c1
        go_wp2_with (at_builtin; refine wpList_append_byteR _ rfl (.tmp 39) (.tmp 43) rfl (w.heap.size + 1) _ acc _ s[k] rfl rfl HO.out rfl (by omega) hz ?_; intro v2 w2 HO2 hb2 hz2)
        go_roundw
        case rel => exact ⟨k + 1, acc ++ [s[k]], by omega, by simp; omega, by go_num, HO2, HE.out, hb.trans hb2⟩
        case measure => simp [intOf]; omega
    · have g0 : ¬ (k : Int) < (s.size : Int) - 1 := by omega
      have HE : Hid ((⟨acc.toArray⟩ : ByteArray) = unqS s) := by
        show _ = _
        unfold unqS
        rw [HQ.out, unq_last HR.out (by have := size_list s; rw [List.length_drop]; omega)]
      have hcv := HO.out.text
      obtain ⟨hzz, p0, p1, f0, f1, kb⟩ := text_room hb
      generalize (⟨acc.toArray⟩ : ByteArray) = r at *
      obtain ⟨q0, q1⟩ := two_set (v0 := .int .i64 0) (v1 := .string r) p0 p1
      clear HQ HD HR
      go_wp2_with fail
      exact bodyPost_ret (v := .agg #[.int .i64 0, .string r]) (by simp [results, Tryz.results130, go_sem, q0, q1]) rfl ⟨by rw [HE.out], (kb.setCell (Nat.le_refl _) _).setCell (Nat.le_refl _) _⟩
end Go.Proofs.YtgfbahjpaaanoaaGreatDoor
/-
  What itemOf answers.
-/
namespace Go.Proofs.YtgfbahjpaaanoaaGreatDoor
open Go.ChangeShapes Go.WideShapes Go.ChangeAt Go.RowKit
def ItemOfRes (s : ByteArray) (e : Ending) : Prop := ∃ (r : Rec) (c : Int), e = .returned (.tuple #[.agg #[.string r.name, .bool r.has, .string r.value], .int .i64 c]) ∧ ((c = 0 ∧ readR s = some r) ∨ (c = 5 ∧ readR s = none))
theorem ItemOfRes.no {s : ByteArray} (n : ByteArray) (h : Bool) (v : ByteArray) (hr : readR s = none) : ItemOfRes s (.returned (.tuple #[.agg #[.string n, .bool h, .string v], .int .i64 5])) := ⟨⟨n, h, v⟩, 5, rfl, .inr ⟨rfl, hr⟩⟩
theorem ItemOfRes.yes {s : ByteArray} {n : ByteArray} {h : Bool} {v : ByteArray} (hr : readR s = some ⟨n, h, v⟩) : ItemOfRes s (.returned (.tuple #[.agg #[.string n, .bool h, .string v], .int .i64 0])) := ⟨⟨n, h, v⟩, 0, rfl, .inl ⟨rfl, hr⟩⟩
/-- Three cells of a block that may be written. -/
structure Three (w : World) (B : Nat) (a b c : Value) : Prop where
  c0 : w.cell? ⟨B, 0, none⟩ = some a
  c1 : w.cell? ⟨B, 1, none⟩ = some b
  c2 : w.cell? ⟨B, 2, none⟩ = some c
  f0 : w.frozen? ⟨B, 0, none⟩ = false
  f1 : w.frozen? ⟨B, 1, none⟩ = false
  f2 : w.frozen? ⟨B, 2, none⟩ = false
theorem Three.keep {w w' : World} {B : Nat} {a b c : Value} (h : Three w B a b c) (hb : Below w.heap.size w w') : Three w' B a b c where
  c0 := by rw [hb.cell (block_lt_of_cell h.c0)]; exact h.c0
  c1 := by rw [hb.cell (block_lt_of_cell h.c1)]; exact h.c1
  c2 := by rw [hb.cell (block_lt_of_cell h.c2)]; exact h.c2
  f0 := by rw [hb.frozen (block_lt_of_cell h.c0)]; exact h.f0
  f1 := by rw [hb.frozen (block_lt_of_cell h.c1)]; exact h.f1
  f2 := by rw [hb.frozen (block_lt_of_cell h.c2)]; exact h.f2
theorem Three.new (w : World) (a b c : Value) (t : TypeId) : Three (w.alloc (.cells #[a, b, c] t)) w.heap.size a b c where
  c0 := by simp
  c1 := by simp
  c2 := by simp
  f0 := by simp
  f1 := by simp
  f2 := by simp
theorem Three.alloc {w : World} {B : Nat} {a b c : Value} (h : Three w B a b c) (o : Obj) : Three (w.alloc o) B a b c := h.keep ((Below.refl _ _).alloc (Nat.le_refl _) _)
theorem Three.lt {w : World} {B : Nat} {a b c : Value} (h : Three w B a b c) : B < w.heap.size := block_lt_of_cell h.c0
theorem put_alloc {w w3 : World} (h : Below w.heap.size w w3) (a b c : Value) (o : Obj) : Below w.heap.size w ((((w3.setCell ⟨w.heap.size, 0, none⟩ a).setCell ⟨w.heap.size, 1, none⟩ b).setCell ⟨w.heap.size, 2, none⟩ c).alloc o) := by
  have k := ((h.setCell (p := ⟨w.heap.size, 0, none⟩) (Nat.le_refl _) a).setCell (p := ⟨w.heap.size, 1, none⟩) (Nat.le_refl _) b).setCell (p := ⟨w.heap.size, 2, none⟩) (Nat.le_refl _) c
  exact k.alloc k.size _
set_option maxRecDepth 100000 in
set_option maxHeartbeats 4000000 in
theorem itemOf_bare (s : ByteArray) (w : World) (hset : SetIs w) (hs : s.size ≤ 1000) (h : ¬ eqAt s.data.toList < s.size) :
    Calls Tryz.prog 106 #[.string s] w fun e w' => ItemOfRes s e ∧ Below w.heap.size w w' := by
  have hle := eqAt_le s.data.toList
  rw [size_list] at hle
  have hk : eqAt s.data.toList = s.size := by omega
  have R1 := @read_noname s
  have R2 := @read_bare s
  rw [hk] at R1 R2
  have ee : s.extract 0 s.size = s := ByteArray.extract_zero_size
  rw [ee] at R1 R2
  have RR : Hid ((wordS s = false → readR s = none) ∧ (wordS s = true → readR s = some ⟨s, false, ⟨#[]⟩⟩)) := ⟨R1, fun h => R2 h rfl⟩
  clear R1 R2
  have HC := fun w => cutS_of s w _ _ _ (cut_no s w h)
  have HCC : Hid (∀ w, Calls Tryz.prog 129 #[.string s, .string ⟨#[61]⟩] w fun e w' => e = .returned (.tuple #[.string s, .string ⟨#[]⟩, .bool false]) ∧ Below w.heap.size w w') := HC
  have HS : Hid (SetIs w) := hset
  clear hle hk HC hset ee h
  have T0 : Hid (Three (w.alloc (.cells #[.string ⟨#[]⟩, .bool false, .string ⟨#[]⟩] 65)) w.heap.size (.string ⟨#[]⟩) (.bool false) (.string ⟨#[]⟩)) := Three.new w _ _ _ _
  have KB0 : Hid (Below w.heap.size w (w.alloc (.cells #[.string ⟨#[]⟩, .bool false, .string ⟨#[]⟩] 65))) := (Below.refl _ _).alloc (Nat.le_refl _) _
  go_enter Tryz.func106, Tryz.ntmps106
  go_wp2_with fail
  refine (HCC.out _).mono ?_
  rintro e w1 ⟨rfl, hb1⟩
  have T1 : Hid (Three w1 w.heap.size (.string ⟨#[]⟩) (.bool false) (.string ⟨#[]⟩)) := T0.out.keep hb1
  have KB1 : Hid (Below w.heap.size w w1) := KB0.out.trans (hb1.mono KB0.out.size)
  clear hb1 T0 KB0 HCC
  go_wp2_with fail
  refine (implIsWord_set s w1 (HS.out.below KB1.out)).mono ?_
  rintro e w2 ⟨rfl, hb2⟩
  have T2 : Three w2 w.heap.size (.string ⟨#[]⟩) (.bool false) (.string ⟨#[]⟩) := T1.out.keep hb2
  have KB2 : Hid (Below w.heap.size w w2) := KB1.out.trans (hb2.mono KB1.out.size)
  clear hb2 T1 KB1 HS
  obtain ⟨c0, c1, c2, f0, f1, f2⟩ := T2
  cases hw : wordS s
  · have HR : Hid (readR s = none) := RR.out.1 hw
    clear RR hw
    obtain ⟨r0, r1, r2⟩ := three_set (v0 := .string ⟨#[]⟩) (v1 := .bool false) (v2 := .string ⟨#[]⟩) c0 c1 c2
    go_wp2_with fail
    exact bodyPost_ret (v := .tuple #[.agg #[.string ⟨#[]⟩, .bool false, .string ⟨#[]⟩], .int .i64 5]) (by simp [results, Tryz.results106, go_sem, r0, r1, r2]) rfl ⟨ItemOfRes.no _ _ _ HR.out, ((KB2.out.setCell (Nat.le_refl _) _).setCell (Nat.le_refl _) _).setCell (Nat.le_refl _) _⟩
  · have HR : Hid (readR s = some ⟨s, false, ⟨#[]⟩⟩) := RR.out.2 hw
    have T2 : Hid (Three w2 w.heap.size (.string ⟨#[]⟩) (.bool false) (.string ⟨#[]⟩)) := ⟨c0, c1, c2, f0, f1, f2⟩
    clear RR hw c0 c1 c2 f0 f1 f2
    go_wp2_with fail
    refine (clone_text s w2 (by omega)).mono ?_
    rintro e w3 ⟨rfl, hb3⟩
    have T3 : Three w3 w.heap.size (.string ⟨#[]⟩) (.bool false) (.string ⟨#[]⟩) := T2.out.keep hb3
    have KB3 : Hid (Below w.heap.size w w3) := KB2.out.trans (hb3.mono KB2.out.size)
    have hlt := T3.lt
    obtain ⟨r0, r1, r2⟩ := three_set (v0 := .string s) (v1 := .bool false) (v2 := .string ⟨#[]⟩) T3.c0 T3.c1 T3.c2
    have r0 := f_keepA (.cells #[.string s, .bool false, .string ⟨#[]⟩] 65) r0
    have r1 := f_keepA (.cells #[.string s, .bool false, .string ⟨#[]⟩] 65) r1
    have r2 := f_keepA (.cells #[.string s, .bool false, .string ⟨#[]⟩] 65) r2
    obtain ⟨c0, c1, c2, f0, f1, f2⟩ := T3
    clear hb3 T2 KB2
    go_wp2_with fail
    exact bodyPost_ret (v := .tuple #[.agg #[.string s, .bool false, .string ⟨#[]⟩], .int .i64 0]) (by simp [results, Tryz.results106, go_sem, r0, r1, r2]) rfl ⟨ItemOfRes.yes HR.out, put_alloc KB3.out _ _ _ _⟩
end Go.Proofs.YtgfbahjpaaanoaaGreatDoor
/-
  What itemOf answers where there is a sign of equality; at every piece.
-/
namespace Go.Proofs.YtgfbahjpaaanoaaGreatDoor
open Go.ChangeShapes Go.WideShapes Go.ChangeAt Go.RowKit
theorem ext_size (s : ByteArray) (i j : Nat) (hs : s.size ≤ 1000) : (s.extract i j).size ≤ 1000 := by simp; omega
theorem put4 {w w3 : World} {B : Nat} (h : Below w.heap.size w w3) (hB : w.heap.size ≤ B) (u a b c : Value) : Below w.heap.size w ((((w3.setCell ⟨B, 2, none⟩ u).setCell ⟨w.heap.size, 0, none⟩ a).setCell ⟨w.heap.size, 1, none⟩ b).setCell ⟨w.heap.size, 2, none⟩ c) :=
  (((h.setCell (p := ⟨B, 2, none⟩) hB u).setCell (p := ⟨w.heap.size, 0, none⟩) (Nat.le_refl _) a).setCell (p := ⟨w.heap.size, 1, none⟩) (Nat.le_refl _) b).setCell (p := ⟨w.heap.size, 2, none⟩) (Nat.le_refl _) c
set_option maxRecDepth 100000 in
set_option maxHeartbeats 8000000 in
theorem itemOf_has (s : ByteArray) (w : World) (hset : SetIs w) (hs : s.size ≤ 1000) (h : eqAt s.data.toList < s.size) :
    Calls Tryz.prog 106 #[.string s] w fun e w' => ItemOfRes s e ∧ Below w.heap.size w w' := by
  have hne : eqAt s.data.toList ≠ s.size := by omega
  have R1 := @read_noname s
  have R3 := fun a => @read_word s a hne
  have R4 := fun a => @read_quote s a hne
  have R5 := fun a => @read_bad s a hne
  have HC := fun w => cutS_of s w _ _ _ (cut_yes s w hs h)
  have hnz := ext_size s 0 (eqAt s.data.toList) hs
  have hrz := ext_size s (eqAt s.data.toList + 1) s.size hs
  generalize s.extract 0 (eqAt s.data.toList) = nm at *
  generalize s.extract (eqAt s.data.toList + 1) s.size = rs at *
  have RR : Hid ((wordS nm = false → readR s = none) ∧ (wordS nm = true → wordS rs = true → readR s = some ⟨nm, true, rs⟩) ∧ (wordS nm = true → wordS rs = false → unqB rs = true → readR s = some ⟨nm, true, unqS rs⟩) ∧ (wordS nm = true → wordS rs = false → unqB rs = false → readR s = none)) := ⟨R1, R3, R4, R5⟩
  have HCC : Hid (∀ w, Calls Tryz.prog 129 #[.string s, .string ⟨#[61]⟩] w fun e w' => e = .returned (.tuple #[.string nm, .string rs, .bool true]) ∧ Below w.heap.size w w') := HC
  have HS : Hid (SetIs w) := hset
  clear R1 R3 R4 R5 HC hset h hne
  have T0 : Hid (Three (w.alloc (.cells #[.string ⟨#[]⟩, .bool false, .string ⟨#[]⟩] 65)) w.heap.size (.string ⟨#[]⟩) (.bool false) (.string ⟨#[]⟩)) := Three.new w _ _ _ _
  have KB0 : Hid (Below w.heap.size w (w.alloc (.cells #[.string ⟨#[]⟩, .bool false, .string ⟨#[]⟩] 65))) := (Below.refl _ _).alloc (Nat.le_refl _) _
  go_enter Tryz.func106, Tryz.ntmps106
  go_wp2_with fail
  refine (HCC.out _).mono ?_
  rintro e w1 ⟨rfl, hb1⟩
  have T1 : Hid (Three w1 w.heap.size (.string ⟨#[]⟩) (.bool false) (.string ⟨#[]⟩)) := T0.out.keep hb1
  have KB1 : Hid (Below w.heap.size w w1) := KB0.out.trans (hb1.mono KB0.out.size)
  clear hb1 T0 KB0 HCC
  go_wp2_with fail
  refine (implIsWord_set nm w1 (HS.out.below KB1.out)).mono ?_
  rintro e w2 ⟨rfl, hb2⟩
  have T2 : Hid (Three w2 w.heap.size (.string ⟨#[]⟩) (.bool false) (.string ⟨#[]⟩)) := T1.out.keep hb2
  have KB2 : Hid (Below w.heap.size w w2) := KB1.out.trans (hb2.mono KB1.out.size)
  clear hb2 T1 KB1
  cases hw : wordS nm
  · have HR : Hid (readR s = none) := RR.out.1 hw
    clear RR hw HS
    obtain ⟨c0, c1, c2, f0, f1, f2⟩ := T2.out
    obtain ⟨r0, r1, r2⟩ := three_set (v0 := .string ⟨#[]⟩) (v1 := .bool false) (v2 := .string ⟨#[]⟩) c0 c1 c2
    go_wp2_with fail
    exact bodyPost_ret (v := .tuple #[.agg #[.string ⟨#[]⟩, .bool false, .string ⟨#[]⟩], .int .i64 5]) (by simp [results, Tryz.results106, go_sem, r0, r1, r2]) rfl ⟨ItemOfRes.no _ _ _ HR.out, ((KB2.out.setCell (Nat.le_refl _) _).setCell (Nat.le_refl _) _).setCell (Nat.le_refl _) _⟩
  have R2 : Hid ((wordS rs = true → readR s = some ⟨nm, true, rs⟩) ∧ (wordS rs = false → unqB rs = true → readR s = some ⟨nm, true, unqS rs⟩) ∧ (wordS rs = false → unqB rs = false → readR s = none)) := ⟨RR.out.2.1 hw, RR.out.2.2.1 hw, RR.out.2.2.2 hw⟩
  clear RR hw
  go_wp2_with fail
  refine (clone_text nm w2 (by omega)).mono ?_
  rintro e w3 ⟨rfl, hb3⟩
  have T3 : Hid (Three w3 w.heap.size (.string ⟨#[]⟩) (.bool false) (.string ⟨#[]⟩)) := T2.out.keep hb3
  have KB3 : Hid (Below w.heap.size w w3) := KB2.out.trans (hb3.mono KB2.out.size)
  have S4 : Hid (SetIs (w3.alloc (.cells #[.string nm, .bool true, .string ⟨#[]⟩] 65))) := (HS.out.below KB3.out).below ((Below.refl _ _).alloc (Nat.le_refl _) _)
  have T4 : Hid (Three (w3.alloc (.cells #[.string nm, .bool true, .string ⟨#[]⟩] 65)) w.heap.size (.string ⟨#[]⟩) (.bool false) (.string ⟨#[]⟩)) := T3.out.alloc _
  have U4 : Hid (Three (w3.alloc (.cells #[.string nm, .bool true, .string ⟨#[]⟩] 65)) w3.heap.size (.string nm) (.bool true) (.string ⟨#[]⟩)) := Three.new w3 _ _ _ _
  have KB4 : Hid (Below w.heap.size w (w3.alloc (.cells #[.string nm, .bool true, .string ⟨#[]⟩] 65))) := KB3.out.alloc KB3.out.size _
  have hBB : w.heap.size < w3.heap.size := T3.out.lt
  clear hb3 T2 KB2 T3 KB3 HS
  go_wp2_with fail
  refine (implIsWord_set rs _ S4.out).mono ?_
  rintro e w5 ⟨rfl, hb5⟩
  have T5 : Hid (Three w5 w.heap.size (.string ⟨#[]⟩) (.bool false) (.string ⟨#[]⟩)) := T4.out.keep hb5
  have U5 : Hid (Three w5 w3.heap.size (.string nm) (.bool true) (.string ⟨#[]⟩)) := U4.out.keep hb5
  have KB5 : Hid (Below w.heap.size w w5) := KB4.out.trans (hb5.mono KB4.out.size)
  clear hb5 T4 U4 KB4 S4
  generalize w3.heap.size = B1 at *
  clear w3
  have hBn : w.heap.size ≠ B1 := by omega
  cases hv : wordS rs
  · have R3 : Hid ((unqB rs = true → readR s = some ⟨nm, true, unqS rs⟩) ∧ (unqB rs = false → readR s = none)) := ⟨R2.out.2.1 hv, R2.out.2.2 hv⟩
    clear R2 hv
    cases hu : unqB rs
    · have HR : Hid (readR s = none) := R3.out.2 hu
      have HU : Hid (Calls Tryz.prog 130 #[.string rs] w5 fun e w' => e = .returned (.agg #[.int .i64 5, .string ⟨#[]⟩]) ∧ Below w5.heap.size w5 w') := implUnquote_bad rs w5 (by omega) hu
      clear R3 hu
      go_wp2_with fail
      refine HU.out.mono ?_
      rintro e w6 ⟨rfl, hb6⟩
      have T6 := T5.out.keep hb6
      have KB6 : Hid (Below w.heap.size w w6) := KB5.out.trans (hb6.mono KB5.out.size)
      have hl6 := T6.lt
      obtain ⟨r0, r1, r2⟩ := three_set (v0 := .string ⟨#[]⟩) (v1 := .bool false) (v2 := .string ⟨#[]⟩) T6.c0 T6.c1 T6.c2
      have r0 := f_keepA (.cells #[.int .i64 5, .string ⟨#[]⟩] 98) r0
      have r1 := f_keepA (.cells #[.int .i64 5, .string ⟨#[]⟩] 98) r1
      have r2 := f_keepA (.cells #[.int .i64 5, .string ⟨#[]⟩] 98) r2
      obtain ⟨c0, c1, c2, f0, f1, f2⟩ := T6
      clear hb6 HU T5 U5 KB5
      go_wp2_with fail
      exact bodyPost_ret (v := .tuple #[.agg #[.string ⟨#[]⟩, .bool false, .string ⟨#[]⟩], .int .i64 5]) (by simp [results, Tryz.results106, go_sem, r0, r1, r2]) rfl ⟨ItemOfRes.no _ _ _ HR.out, put_alloc KB6.out _ _ _ _⟩
    · have HR : Hid (readR s = some ⟨nm, true, unqS rs⟩) := R3.out.1 hu
      have HU : Hid (Calls Tryz.prog 130 #[.string rs] w5 fun e w' => e = .returned (.agg #[.int .i64 0, .string (unqS rs)]) ∧ Below w5.heap.size w5 w') := implUnquote_any rs w5 (by omega) hu
      clear R3 hu
      generalize unqS rs = uv at *
      go_wp2_with fail
      refine HU.out.mono ?_
      rintro e w6 ⟨rfl, hb6⟩
      have T6 := T5.out.keep hb6
      have U6 := U5.out.keep hb6
      have KB6 : Hid (Below w.heap.size w w6) := KB5.out.trans (hb6.mono KB5.out.size)
      have hl6 := T6.lt
      have hm6 := U6.lt
      obtain ⟨x0, x1, x2, y0, y1, y2, z0, z1, z2⟩ := item_put (v := .string uv) hBn T6.c0 T6.c1 T6.c2 T6.f0 T6.f1 T6.f2 U6.c0 U6.c1 U6.c2
      obtain ⟨r0, r1, r2⟩ := three_set (v0 := .string nm) (v1 := .bool true) (v2 := .string uv) y0 y1 y2
      have r0 := f_keepA (.cells #[.int .i64 0, .string uv] 98) r0
      have r1 := f_keepA (.cells #[.int .i64 0, .string uv] 98) r1
      have r2 := f_keepA (.cells #[.int .i64 0, .string uv] 98) r2
      obtain ⟨c0, c1, c2, f0, f1, f2⟩ := T6
      obtain ⟨d0, d1, d2, g0, g1, g2⟩ := U6
      have hkb := put4 KB6.out (by omega : w.heap.size ≤ B1) (.string uv) (.string nm) (.bool true) (.string uv)
      have HKB : Hid (Below w.heap.size w (((((w6.setCell ⟨B1, 2, none⟩ (.string uv)).setCell ⟨w.heap.size, 0, none⟩ (.string nm)).setCell ⟨w.heap.size, 1, none⟩ (.bool true)).setCell ⟨w.heap.size, 2, none⟩ (.string uv)).alloc (.cells #[.int .i64 0, .string uv] 98))) := hkb.alloc hkb.size _
      clear hb6 HU T5 U5 KB5 hkb
      go_wp2_with fail
      exact bodyPost_ret (v := .tuple #[.agg #[.string nm, .bool true, .string uv], .int .i64 0]) (by simp [results, Tryz.results106, go_sem, r0, r1, r2]) rfl ⟨ItemOfRes.yes HR.out, HKB.out⟩
  · have HR : Hid (readR s = some ⟨nm, true, rs⟩) := R2.out.1 hv
    clear R2 hv
    go_wp2_with fail
    refine (clone_text rs w5 (by omega)).mono ?_
    rintro e w6 ⟨rfl, hb6⟩
    have T6 := T5.out.keep hb6
    have U6 := U5.out.keep hb6
    have KB6 : Hid (Below w.heap.size w w6) := KB5.out.trans (hb6.mono KB5.out.size)
    obtain ⟨x0, x1, x2, y0, y1, y2, z0, z1, z2⟩ := item_put (v := .string rs) hBn T6.c0 T6.c1 T6.c2 T6.f0 T6.f1 T6.f2 U6.c0 U6.c1 U6.c2
    obtain ⟨r0, r1, r2⟩ := three_set (v0 := .string nm) (v1 := .bool true) (v2 := .string rs) y0 y1 y2
    obtain ⟨c0, c1, c2, f0, f1, f2⟩ := T6
    obtain ⟨d0, d1, d2, g0, g1, g2⟩ := U6
    have HKB : Hid (Below w.heap.size w ((((w6.setCell ⟨B1, 2, none⟩ (.string rs)).setCell ⟨w.heap.size, 0, none⟩ (.string nm)).setCell ⟨w.heap.size, 1, none⟩ (.bool true)).setCell ⟨w.heap.size, 2, none⟩ (.string rs))) := put4 KB6.out (by omega : w.heap.size ≤ B1) _ _ _ _
    clear hb6 T5 U5 KB5
    go_wp2_with fail
    exact bodyPost_ret (v := .tuple #[.agg #[.string nm, .bool true, .string rs], .int .i64 0]) (by simp [results, Tryz.results106, go_sem, r0, r1, r2]) rfl ⟨ItemOfRes.yes HR.out, HKB.out⟩
theorem itemOf_any (s : ByteArray) (w : World) (hset : SetIs w) (hs : s.size ≤ 1000) :
    Calls Tryz.prog 106 #[.string s] w fun e w' => ItemOfRes s e ∧ Below w.heap.size w w' := by
  by_cases h : eqAt s.data.toList < s.size
  · exact itemOf_has s w hset hs h
  · exact itemOf_bare s w hset hs h
end Go.Proofs.YtgfbahjpaaanoaaGreatDoor
/-
  What the teller of itemsOf does, for every loop body.
-/
namespace Go.Proofs.YtgfbahjpaaanoaaGreatDoor
open Go.ChangeShapes Go.WideShapes Go.ChangeAt Go.RowKit Go.Shelf
attribute [local go_sem] Oper.semAt_some
theorem ascii_set {l : List UInt8} (h : (l.all fun b => decide (b.toNat < 128)) = true) : ∀ (j : Nat) b, l[j]? = some b → b.toNat < 128 := fun _ b hb => by
  have := List.all_eq_true.1 h b (List.mem_of_getElem? hb)
  simpa using this
theorem trim_lib2 (s : ByteArray) (w : World) (hs : s.size ≤ 1000) :
    Calls Tryz.prog 74 #[.string s, .string ⟨#[32, 9]⟩] w fun e w' => e = .returned (.string (trimT s)) ∧ Below w.heap.size w w' :=
  Any.strings_Trim_laid Tryz.lays160 (by kernel_rfl) s ⟨#[32, 9]⟩ w (by omega) (by decide) (ascii_set (by decide))
theorem setIs_belowN {w w' : World} {n : Nat} (h : SetIs w) (hb : Below n w w') (hn : 0 < n) : SetIs w' := by
  obtain ⟨cs, tt, fr, hg, h1, h2⟩ := h
  exact ⟨cs, tt, fr, by rw [hb.block 0 hn, hg], h1, h2⟩
def encX (x : Rec × Int) : Array Value := #[.agg #[.string x.1.name, .bool x.1.has, .string x.1.value], .int .i64 x.2]
/-- What a round that goes on keeps. -/
def KeepT (n₀ Bt : Nat) (s : ByteArray) (W W' : World) : Prop := Below n₀ W W' ∧ (W.cell? ⟨Bt, 0, none⟩ = some (.string s) → W'.cell? ⟨Bt, 0, none⟩ = some (.string s))
theorem grown_of {W W' : World} (h : Below W.heap.size W W') : W.grownBy W' none := ⟨h.os, h.tape, h.output, h.size, fun k hk _ => h.block k hk⟩
set_option maxRecDepth 100000 in
set_option maxHeartbeats 8000000 in
theorem tell_in (n : Nat) (hn : 1 ≤ n) (l Bt n₀ : Nat) (s : ByteArray) (hs : s.size ≤ 1000) (hG : 0 < n₀) (J Jx : List (Rec × Int) → World → Prop)
    (hJ : ∀ pre W W', J pre W → W.grownBy W' none → J pre W')
    (hY : ∀ pre x W, J pre W → pre.length < 1002 → YieldAt Fence.wide (n - 1) Tryz.prog l (encX x) W fun e W' =>
      (e = .returned (.bool true) ∧ J (pre ++ [x]) W' ∧ KeepT n₀ Bt s W W') ∨ (e = .returned (.bool false) ∧ Jx (pre ++ [x]) W'))
    (W : World) (hc : W.cell? ⟨Bt, 0, none⟩ = some (.string s)) (hset : SetIs W) (h0 : J [] W) :
    CallsIn Fence.wide n Tryz.prog 104 #[.func (.yield l) #[] #[], .pointer (some ⟨Bt, 0, none⟩)] W fun e W' => (∃ v, e = .returned v) ∧
      ((∃ ys, AllTell (trims (pcs false [] s.data.toList)) ys ∧ J ys W') ∨ (∃ pre, (∃ d, d <+: trims (pcs false [] s.data.toList) ∧ AllTell d pre) ∧ Jx pre W')) := by
  have hT := (pcs_small s.data.toList.length s.data.toList false [] (Nat.le_refl _)).2
  rw [size_list] at hT
  have hTl := trims_len (pcs false [] s.data.toList)
  have HY : Hid (∀ pre x W, J pre W → pre.length < 1002 → YieldAt Fence.wide (n - 1) Tryz.prog l (encX x) W fun e W' =>
      (e = .returned (.bool true) ∧ J (pre ++ [x]) W' ∧ KeepT n₀ Bt s W W') ∨ (e = .returned (.bool false) ∧ Jx (pre ++ [x]) W')) := hY
  have HJ : Hid (∀ pre W W', J pre W → W.grownBy W' none → J pre W') := hJ
  clear hY hJ
  refine callsIn_of_wp Tryz.func104 rfl trivial ?_ rfl
  simp only [Tryz.ntmps104, List.size_toArray, List.length_cons, List.length_nil, Nat.reduceAdd, Nat.reduceSub, Array.replicate_succ, Array.replicate_zero, List.push_toArray, List.append_toArray, List.nil_append, List.cons_append]
  gi_wp2
  gi_loopw [3] (fun b wr => ∃ (k : Nat) (done : List ByteArray) (pre : List (Rec × Int)), b = .int .i64 k ∧ k ≤ s.size + 1 ∧ TellAt s done k ∧ AllTell done pre ∧ J pre wr ∧ wr.cell? ⟨Bt, 0, none⟩ = some (.string s) ∧ SetIs wr ∧ done.length ≤ (trims (pcs false [] s.data.toList)).length) (fun b _ => s.size + 1 - (intOf b).toNat)
  case atStart => exact ⟨0, [], [], rfl, Nat.zero_le _, .inl ⟨Nat.zero_le _, rfl⟩, trivial, h0, hc, hset, Nat.zero_le _⟩
  case round =>
    obtain ⟨k, done, pre, rfl, hk, hta, htl, hJs, hcs, hsets, hdl⟩ := hrel
    have HA : Hid (TellAt s done k) := hta
    have HL : Hid (AllTell done pre) := htl
    have HS : Hid (SetIs wr) := hsets
    have HJs : Hid (J pre wr) := hJs
    clear hta htl hsets hJs hc hset h0
    by_cases hlt : k < s.size
    · have g : (k : Int) < s.size := by omega
      have hpe : pEnd s.data.toList k ≤ s.size ∧ k ≤ pEnd s.data.toList k := by
        have hp := peS_le _ (s.data.toList.drop k) false (Nat.le_refl _)
        rw [List.length_drop, size_list] at hp
        unfold pEnd; omega
      have HX : Hid (s.extract k (pEnd s.data.toList k) = mkB ((s.data.toList.drop k).take (pEnd s.data.toList k - k))) := ext_mk _ _ _
      have hxz := ext_size s k (pEnd s.data.toList k) hs
      have A1 := HA.out.skip hlt
      have A2 := HA.out.take hlt
      have PE := pieceEnd_any s k wr hs hlt
      rw [← HX.out] at A1 A2
      generalize pEnd s.data.toList k = q at *
      have TR := fun w => trim_lib2 (s.extract k q) w hxz
      have htz : (trimT (s.extract k q)).size ≤ 1000 := Nat.le_trans (trim_le _) hxz
      generalize trimT (s.extract k q) = t at *
      have HPE : Hid (Calls Tryz.prog 105 #[.string s, .int .i64 k] wr fun e w' => e = .returned (.int .i64 (q : Int)) ∧ w' = wr) := PE
      have HTR : Hid (∀ w, Calls Tryz.prog 74 #[.string (s.extract k q), .string ⟨#[32, 9]⟩] w fun e w' => e = .returned (.string t) ∧ Below w.heap.size w w') := TR
      have gq0 : (0 : Int) ≤ k := by omega
      have gq1 : (k : Int) ≤ q := by omega
      have gq2 : (q : Int) ≤ s.size := by omega
      clear PE TR HX HA
      by_cases ht0 : t.size = 0
      · have HA1 : Hid (TellAt s done (q + 1)) := A1 ht0
        have ht := str_nil ht0
        subst ht
        clear A1 A2 ht0
        gi_wp2_with (first
          | (refine ⟨trivial, ?_⟩; gi_at_call 105; refine (callsIn_wide.2 HPE.out).mono ?_; rintro e w1 ⟨rfl, rfl⟩)
          | (refine ⟨trivial, ?_⟩; gi_at_call 74; refine (callsIn_wide.2 (HTR.out _)).mono ?_; rintro e w2 ⟨rfl, hb2⟩))
        refine ⟨trivial, ?_⟩
        gi_wp2
        refine ⟨fun _ h => (by cases h), ?_⟩
        gi_wp2
        go_roundw
        case rel => exact ⟨q + 1, done, pre, by go_num, by omega, HA1.out, HL.out, HJ.out _ _ _ HJs.out (grown_of hb2), f_keep hb2 hcs, HS.out.below hb2, hdl⟩
        case measure => simp [intOf]; omega
      · obtain ⟨ha2, hpre⟩ := A2 ht0
        have HA2 : Hid (TellAt s (done ++ [t]) (q + 1)) := ha2
        have HPF : Hid ((done ++ [t]) <+: trims (pcs false [] s.data.toList)) := hpre
        have hte := str_some ht0
        have hpl : pre.length < 1002 := by
          have h1 := tells_len HL.out
          omega
        clear A1 A2 ht0 ha2 hpre
        gi_wp2_with (first
          | (refine ⟨trivial, ?_⟩; gi_at_call 105; refine (callsIn_wide.2 HPE.out).mono ?_; rintro e w1 ⟨rfl, rfl⟩)
          | (refine ⟨trivial, ?_⟩; gi_at_call 74; refine (callsIn_wide.2 (HTR.out _)).mono ?_; rintro e w2 ⟨rfl, hb2⟩)
          | (refine ⟨trivial, ?_⟩; gi_at_call 106; refine (callsIn_wide.2 (itemOf_any t _ (HS.out.below hb2) htz)).mono ?_; rintro e w3 ⟨⟨⟨rn, rh, rv⟩, rc, rfl, hres⟩, hb3⟩; have hJ3 := HJ.out _ _ _ (HJ.out _ _ _ HJs.out (grown_of hb2)) (grown_of hb3); obtain ⟨fn, tmps, assign, body, hy, hR⟩ := HY.out pre (⟨rn, rh, rv⟩, rc) w3 hJ3 hpl; dsimp only [encX] at hy))
        refine hR.mono ?_
        rintro e W3 (⟨rfl, hJ4, hk4⟩ | ⟨rfl, hJx4⟩)
        · have hc4 := hk4.2 (f_keep hb3 (f_keep hb2 hcs))
          have hs4 : SetIs W3 := setIs_belowN ((HS.out.below hb2).below hb3) hk4.1 hG
          have htell : Tells t (⟨rn, rh, rv⟩, rc) := hres
          have HFIN : Hid (AllTell (done ++ [t]) (pre ++ [(⟨rn, rh, rv⟩, rc)]) ∧ J (pre ++ [(⟨rn, rh, rv⟩, rc)]) W3 ∧ W3.cell? ⟨Bt, 0, none⟩ = some (.string s) ∧ SetIs W3 ∧ (done ++ [t]).length ≤ (trims (pcs false [] s.data.toList)).length) := ⟨tells_snoc HL.out htell, hJ4, hc4, hs4, HPF.out.length_le⟩
          clear hc4 hs4 htell hJ4 hk4 hy hR hJ3
          gi_wp2
          go_roundw
          case rel => exact ⟨q + 1, done ++ [t], pre ++ [(⟨rn, rh, rv⟩, rc)], by go_num, by omega, HA2.out, HFIN.out.1, HFIN.out.2.1, HFIN.out.2.2.1, HFIN.out.2.2.2.1, HFIN.out.2.2.2.2⟩
          case measure => simp [intOf]; omega
        · have htell : Tells t (⟨rn, rh, rv⟩, rc) := hres
          have HFIN : Hid (AllTell (done ++ [t]) (pre ++ [(⟨rn, rh, rv⟩, rc)])) := tells_snoc HL.out htell
          gi_wp2
          refine bodyPost_ret (results_none rfl _ _ _) rfl ?_
          exact ⟨⟨_, rfl⟩, .inr ⟨pre ++ [(⟨rn, rh, rv⟩, rc)], ⟨done ++ [t], HPF.out, HFIN.out⟩, hJx4⟩⟩
    · have HT : Hid (trims (pcs false [] s.data.toList) = done) := HA.out.over hlt
      have g : ¬ (k : Int) < s.size := by omega
      clear HA HY HJ
      gi_wp2
      go_end0
      exact ⟨⟨_, rfl⟩, .inl ⟨pre, by rw [HT.out]; exact HL.out, HJs.out⟩⟩
end Go.Proofs.YtgfbahjpaaanoaaGreatDoor
/-
  What ParseItems answers.
-/
namespace Go.Proofs.YtgfbahjpaaanoaaGreatDoor
open Go.ChangeShapes Go.WideShapes Go.ChangeAt Go.RowKit Go.Shelf
attribute [local go_sem] Oper.semAt_some
set_option maxHeartbeats 1000000 in
theorem itemsOf_any (s : ByteArray) (w : World) :
    Calls Tryz.prog 77 #[.string s] w fun e w' => e = .returned (.func (.func 104) #[] #[.pointer (some ⟨w.heap.size, 0, none⟩)]) ∧ w' = w.alloc (.cells #[.string s] 9) := by
  go_enter Tryz.func77, Tryz.ntmps77
  go_wp2
  go_ret
  exact ⟨rfl, rfl⟩
theorem tell_stops (n : Nat) (hn : 1 ≤ n) (Bt n₀ : Nat) (s : ByteArray) (hs : s.size ≤ 1000) (hG : 0 < n₀) (w : World) (hBt : Bt < w.heap.size) (hc : w.cell? ⟨Bt, 0, none⟩ = some (.string s)) (hset : SetIs w) :
    SeqStopsK Fence.wide n Tryz.prog 104 #[.pointer (some ⟨Bt, 0, none⟩)] encX (KeepT n₀ Bt s) (fun ys => AllTell (trims (pcs false [] s.data.toList)) ys) (fun pre => ∃ d, d <+: trims (pcs false [] s.data.toList) ∧ AllTell d pre) 1002 w := fun l J Jx W hW hJ _ hY h0 =>
  tell_in n hn l Bt n₀ s hs hG J Jx (fun pre W1 W2 h hg => hJ pre W1 W2 none h hg (fun r e => by cases e)) hY W ((hW.cell (p := ⟨Bt, 0, none⟩) hBt).trans hc) (hset.below hW) h0
theorem keepT_t {n₀ Bt : Nat} {s : ByteArray} {A B C : World} (h : KeepT n₀ Bt s A B) (k : KeepT n₀ Bt s B C) : KeepT n₀ Bt s A C := ⟨h.1.trans k.1, fun x => k.2 (h.2 x)⟩
theorem keepT_b {n₀ Bt : Nat} {s : ByteArray} {w : World} (hn : n₀ ≤ w.heap.size) (W : World) (l : Nat) (o o' : Obj) (hl : w.heap.size ≤ l) (ho : W.heap[l]? = some o) (h1 : o.isCells = false) (h2 : o.isWalk = false) : KeepT n₀ Bt s W (W.putObj l o') := by
  refine ⟨belowK_b hn W l o o' hl ho h1 h2, fun hc => ?_⟩
  exact cell_kept hc (grownBy_putObj' W l o') (fun r e => by cases e; exact ⟨_, ho, h1⟩)
end Go.Proofs.YtgfbahjpaaanoaaGreatDoor
/-
  What the loop of ParseItems keeps between two rounds.
-/
namespace Go.Proofs.YtgfbahjpaaanoaaGreatDoor
open Go.ChangeShapes Go.WideShapes Go.ChangeAt Go.RowKit Go.Shelf
/-- Between two rounds: all that was told was an item, and they lie in the row. -/
structure PI (w : World) (pre : List (Rec × Int)) (W : World) : Prop where
  good : ∀ x ∈ pre, x.2 = 0
  row : ∃ v, W.cell? ⟨w.heap.size + 1, 0, none⟩ = some v ∧ OwnI W (w.heap.size + 3) v (pre.map (·.1))
  bf : W.frozen? ⟨w.heap.size + 1, 0, none⟩ = false
  c0 : W.cell? ⟨w.heap.size, 0, none⟩ = some (.int .i64 0)
  c1 : W.cell? ⟨w.heap.size, 1, none⟩ = some (.slice none 0 0)
  f0 : W.frozen? ⟨w.heap.size, 0, none⟩ = false
  f1 : W.frozen? ⟨w.heap.size, 1, none⟩ = false
  below : Below w.heap.size w W
  size : w.heap.size + 3 ≤ W.heap.size
/-- A round has left: the last that was told was none. -/
def PX (w : World) (c : Code) (pre : List (Rec × Int)) (W : World) : Prop := c = .ret ∧ (∃ pr x, pre = pr ++ [x] ∧ x.2 ≠ 0 ∧ W.cell? ⟨w.heap.size, 0, none⟩ = some (.int .i64 x.2) ∧ W.cell? ⟨w.heap.size, 1, none⟩ = some (.slice none 0 0)) ∧ Below w.heap.size w W
theorem ownI_apart {W : World} {base : Nat} {v : Value} {l : List Rec} (h : OwnI W base v l) {row : Option Nat} (hr : ∀ r, row = some r → ∃ o : Obj, W.heap[r]? = some o ∧ o.isCells = false) : v.ownBlock = none ∨ v.ownBlock ≠ row := by
  obtain ⟨_, h1 | ⟨g, c, cur, rfl, _, hh, _⟩⟩ := h
  · left; rw [h1.1]; rfl
  · right
    intro e
    obtain ⟨o, ho, hc⟩ := hr g e.symm
    rw [hh] at ho
    obtain rfl := Option.some.inj ho
    cases hc
theorem pi_grown {w W W' : World} {pre : List (Rec × Int)} {row : Option Nat} (h : PI w pre W) (hg : W.grownBy W' row) (hr : ∀ r, row = some r → w.heap.size + 3 ≤ r ∧ ∃ o : Obj, W.heap[r]? = some o ∧ o.isCells = false) : PI w pre W' := by
  have hr2 : ∀ r, row = some r → ∃ o : Obj, W.heap[r]? = some o ∧ o.isCells = false := fun r e => (hr r e).2
  obtain ⟨v, hv, ho⟩ := h.row
  exact { good := h.good, row := ⟨v, cell_kept hv hg hr2, World.ownsRow.kept ho hg (ownI_apart ho hr2)⟩, bf := (frozen_kept hv hg hr2).trans h.bf,
          c0 := cell_kept h.c0 hg hr2, c1 := cell_kept h.c1 hg hr2, f0 := (frozen_kept h.c0 hg hr2).trans h.f0, f1 := (frozen_kept h.c1 hg hr2).trans h.f1,
          below := h.below.grown hg (by have := h.size; omega) (fun k e => by have := (hr k e).1; omega), size := Nat.le_trans h.size hg.size }
theorem px_grown {w W W' : World} {c : Code} {pre : List (Rec × Int)} {row : Option Nat} (h : PX w c pre W) (hg : W.grownBy W' row) (hr : ∀ r, row = some r → w.heap.size + 3 ≤ r ∧ ∃ o : Obj, W.heap[r]? = some o ∧ o.isCells = false) : PX w c pre W' := by
  have hr2 : ∀ r, row = some r → ∃ o : Obj, W.heap[r]? = some o ∧ o.isCells = false := fun r e => (hr r e).2
  obtain ⟨h1, ⟨pr, x, e, hx, c0, c1⟩, hb⟩ := h
  exact ⟨h1, ⟨pr, x, e, hx, cell_kept c0 hg hr2, cell_kept c1 hg hr2⟩, hb.grown hg hb.size (fun k e => by have := (hr k e).1; omega)⟩
theorem pi_alloc {w W : World} {pre : List (Rec × Int)} (h : PI w pre W) (o : Obj) : PI w pre (W.alloc o) := pi_grown h (World.grownBy_alloc W o none) (fun r e => by cases e)
/-- The row has grown by one item, and its box holds it. -/
theorem pi_append {w W w1 : World} {pre : List (Rec × Int)} {r : Rec} {v v' : Value} {tmp : Obj} {s : ByteArray} (h : PI w pre W) (hv : W.cell? ⟨w.heap.size + 1, 0, none⟩ = some v) (ho : OwnI W (w.heap.size + 3) v (pre.map (·.1)))
    (ho' : OwnI w1 (w.heap.size + 3) v' (pre.map (·.1) ++ [r])) (hg : (W.alloc tmp).grownBy w1 v.ownBlock) :
    w1.cell? ⟨w.heap.size + 1, 0, none⟩ = some v ∧ w1.frozen? ⟨w.heap.size + 1, 0, none⟩ = false ∧ PI w (pre ++ [(r, 0)]) (w1.setCell ⟨w.heap.size + 1, 0, none⟩ v') ∧ KeepT w.heap.size (w.heap.size + 2) s W (w1.setCell ⟨w.heap.size + 1, 0, none⟩ v') ∧ KeepsFrom (w.heap.size + 3) W (w1.setCell ⟨w.heap.size + 1, 0, none⟩ v') := by
  have hA := pi_alloc h tmp
  have hge : ∀ q, v.ownBlock = some q → w.heap.size + 3 ≤ q := fun q hq => own_geI ho q hq
  have kc : ∀ (b o : Nat) (u : Value), b < w.heap.size + 3 → (W.alloc tmp).cell? ⟨b, o, none⟩ = some u → w1.cell? ⟨b, o, none⟩ = some u := fun b o u hb hu => hg.cell hu (fun e => by have := hge b e.symm; omega)
  have kf : ∀ (b o : Nat) (u : Value), b < w.heap.size + 3 → (W.alloc tmp).cell? ⟨b, o, none⟩ = some u → w1.frozen? ⟨b, o, none⟩ = (W.alloc tmp).frozen? ⟨b, o, none⟩ := fun b o u hb hu => World.frozen?_of_block (hg.block b (block_lt_of_cell hu) (fun e => by have := hge b e.symm; omega))
  have hvA : (W.alloc tmp).cell? ⟨w.heap.size + 1, 0, none⟩ = some v := f_keepA tmp hv
  have c1b := kc (w.heap.size + 1) 0 v (by omega) hvA
  have f1b := (kf (w.heap.size + 1) 0 v (by omega) hvA).trans hA.bf
  have ne : ∀ (b o : Nat), b ≠ w.heap.size + 1 → (⟨w.heap.size + 1, 0, none⟩ : Addr) ≠ ⟨b, o, none⟩ := fun b o hb e => hb (congrArg Addr.block e).symm
  have hz : w.heap.size + 3 ≤ (W.alloc tmp).heap.size := hA.size
  have bw : Below w.heap.size w w1 := hA.below.grown hg (by omega) (fun q hq => by have := hge q hq; omega)
  have bW : Below w.heap.size W w1 := ((Below.refl _ W).alloc (by have := h.size; omega) tmp).grown hg (by omega) (fun q hq => by have := hge q hq; omega)
  refine ⟨c1b, f1b, ?_, ⟨bW.setCell (p := ⟨w.heap.size + 1, 0, none⟩) (Nat.le_succ _) _, fun hc => ?_⟩, ?_⟩
  · refine { good := fun x hx => ?_, row := ⟨v', World.cell?_setCell_same _ _ _ c1b, ?_⟩, bf := by rw [World.frozen?_setCell]; exact f1b, c0 := ?_, c1 := ?_, f0 := ?_, f1 := ?_, below := bw.setCell (p := ⟨w.heap.size + 1, 0, none⟩) (Nat.le_succ _) _, size := ?_ }
    · rcases List.mem_append.1 hx with hx | hx
      · exact h.good x hx
      · simp at hx; rw [hx]
    · rw [List.map_append]
      refine World.ownsRow.kept ho' (grownBy_setCell' w1 (w.heap.size + 1) v') ?_
      cases hb : v'.ownBlock with
      | none => exact .inl rfl
      | some q => exact .inr (fun e => by have := own_geI ho' q hb; have := Option.some.inj e; omega)
    · rw [World.cell?_setCell_other _ _ _ _ (ne _ _ (by omega))]; exact kc _ _ _ (by omega) hA.c0
    · rw [World.cell?_setCell_other _ _ _ _ (ne _ _ (by omega))]; exact kc _ _ _ (by omega) hA.c1
    · rw [World.frozen?_setCell]; exact (kf _ _ _ (by omega) hA.c0).trans hA.f0
    · rw [World.frozen?_setCell]; exact (kf _ _ _ (by omega) hA.c1).trans hA.f1
    · have := hg.size
      simp at this ⊢
      have := h.size
      omega
  · rw [World.cell?_setCell_other _ _ _ _ (ne _ _ (by omega))]
    exact kc _ _ _ (by omega) (f_keepA tmp hc)
  · refine (((KeepsOthers.alloc W tmp).trans (KeepsOthers.of_grownBy hg fun j o ej hj => ?_)).trans (KeepsOthers.setCell _ _ _)).from _
    obtain ⟨_, hn | ⟨g, c, cur, rfl, _, hh, _⟩⟩ := World.ownsRow.alloc ho tmp
    · rw [hn.1] at ej; cases ej
    · simp only [Value.ownBlock, Option.some.injEq] at ej
      subst ej
      rw [hh] at hj
      obtain rfl := Option.some.inj hj
      rfl
end Go.Proofs.YtgfbahjpaaanoaaGreatDoor
/-
  What ParseItems answers: the loop.
-/
namespace Go.Proofs.YtgfbahjpaaanoaaGreatDoor
open Go.ChangeShapes Go.WideShapes Go.ChangeAt Go.RowKit Go.Shelf
attribute [local go_sem] Oper.semAt_some
def ParseOut (s : ByteArray) (base : Nat) (e : Ending) (w : World) : Prop := ∃ v, e = .returned (.agg #[.int .i64 (parseC s), v]) ∧ OwnI w base v (parseL s)
theorem ParseOut.mk {s : ByteArray} {base : Nat} {w : World} {v : Value} {c : Int} {L : List Rec} (h : parseC s = c ∧ parseL s = L) (ho : OwnI w base v L) : ParseOut s base (.returned (.agg #[.int .i64 c, v])) w := ⟨v, by rw [h.1], by rw [h.2]; exact ho⟩
theorem own_set {W : World} {base b o : Nat} {v u : Value} {l : List Rec} (h : OwnI W base v l) (hb : b < base) : OwnI (W.setCell ⟨b, o, none⟩ u) base v l := by
  obtain ⟨h1, h2⟩ := h
  refine ⟨h1, ?_⟩
  rcases h2 with h2 | ⟨g, c, cur, e, hg, hh, hrest⟩
  · exact .inl h2
  · exact .inr ⟨g, c, cur, e, hg, by rw [Below.heap_setCell _ _ _ g (fun e => by simp only at e; omega)]; exact hh, hrest⟩
/-- Behind the loop, at the function's end: what its result's room holds. -/
theorem parse_end {w W2 : World} {D : Nat} {c : Int} {v : Value} {s : ByteArray} {L : List Rec} (hD : w.heap.size + 3 ≤ D) (hK : W2.heap[D]? = some (.deferred (some []))) (q0 : W2.cell? ⟨w.heap.size, 0, none⟩ = some (.int .i64 c)) (q1 : W2.cell? ⟨w.heap.size, 1, none⟩ = some v)
    (hb : Below w.heap.size w W2) (ho : OwnI W2 (w.heap.size + 3) v L) (hY : parseC s = c ∧ parseL s = L) :
    (W2.putObj D (.deferred none)).cell? ⟨w.heap.size, 0, none⟩ = some (.int .i64 c) ∧ (W2.putObj D (.deferred none)).cell? ⟨w.heap.size, 1, none⟩ = some v ∧ ParseOut s w.heap.size (.returned (.agg #[.int .i64 c, v])) (W2.putObj D (.deferred none)) ∧ Below w.heap.size w (W2.putObj D (.deferred none)) := by
  have hr : ∀ r, some D = some r → ∃ o : Obj, W2.heap[r]? = some o ∧ o.isCells = false := fun r e => by cases e; exact ⟨_, hK, rfl⟩
  refine ⟨cell_kept q0 (grownBy_putObj' W2 D _) hr, cell_kept q1 (grownBy_putObj' W2 D _) hr, ParseOut.mk hY ?_, hb.trans (belowK_b (w := w) (Nat.le_refl _) W2 D _ _ (by omega) hK rfl rfl)⟩
  have h1 : OwnI (W2.putObj D (.deferred none)) (w.heap.size + 3) v L := ownsRow_putObj ho _ hK rfl
  exact h1.lower (by omega)
theorem cell_one (X : World) (v : Value) (t : TypeId) : (X.alloc (.cells #[v] t)).cell? ⟨X.heap.size, 0, none⟩ = some v := by simp
theorem fr_keepA {W : World} {p : Addr} {v : Value} (o : Obj) (h : W.cell? p = some v) : (W.alloc o).frozen? p = W.frozen? p := ((Below.refl _ W).alloc (Nat.le_refl _) o).frozen (block_lt_of_cell h)
theorem cells3_new (w : World) (a b c : Value) (t : TypeId) : ∀ (j : Nat) u, ([a, b, c] : List Value)[j]? = some u → (w.alloc (.cells #[a, b, c] t)).cell? ((⟨w.heap.size, 0, none⟩ : Addr).add j) = some u := by
  intro j u hj
  match j, hj with
  | 0, hj => simp at hj; subst hj; simp [Addr.add]
  | 1, hj => simp at hj; subst hj; simp [Addr.add]
  | 2, hj => simp at hj; subst hj; simp [Addr.add]
theorem recsW_snoc (l : List Rec) (n : ByteArray) (h : Bool) (v : ByteArray) : recsW (l ++ [⟨n, h, v⟩]) = recsW l ++ [.string n, .bool h, .string v] := by simp [recsW, recW]
def actX (w : World) (s : ByteArray) (x : Rec × Int) (Bx : Nat) : Act := { tmps := #[.string s, undef, .pointer (some ⟨w.heap.size, 0, none⟩), .pointer (some ⟨w.heap.size + 1, 0, none⟩), .pointer (some ⟨Bx, 0, none⟩), .int .i64 x.2, .string s, .int .i64 s.size, .bool false, undef, .string s, .func (.func 104) #[] #[.pointer (some ⟨w.heap.size + 1 + 1, 0, none⟩)], .agg #[.string x.1.name, .bool x.1.has, .string x.1.value], .int .i64 x.2, undef, undef, undef, undef, undef, undef, undef, undef, undef, undef, undef, undef, undef, undef], defers := [] }
set_option maxRecDepth 100000 in
set_option maxHeartbeats 8000000 in
theorem implParse_loop (s : ByteArray) (w : World) (hs : s.size ≤ 1000) (hset : SetIs w) :
    Calls Tryz.prog 52 #[.string s] w fun e w' => ParseOut s w.heap.size e w' ∧ Below w.heap.size w w' := by
  have g : ¬ (1000 : Int) < s.size := by omega
  have hG : 0 < w.heap.size := by
    obtain ⟨cs, tt, fr, hg, _⟩ := hset
    exact (Array.getElem?_eq_some_iff.1 hg).1
  obtain ⟨i0, hi, hz0, hz1, hz2⟩ := info_parts infoItem
  refine (callsIn_wide (n := 3)).1 ?_
  refine callsIn_of_wp_marks Tryz.func52 rfl trivial ?_ rfl
  simp only [Tryz.ntmps52, List.size_toArray, List.length_cons, List.length_nil, Nat.reduceAdd, Nat.reduceSub, Array.replicate_succ, Array.replicate_zero, List.push_toArray, List.append_toArray, List.nil_append, List.cons_append]
  gi_wp2_with (refine ⟨trivial, ?_⟩; gi_at_call 77; refine (callsIn_wide.2 (itemsOf_any s _)).mono ?_; rintro e w' ⟨rfl, rfl⟩)
  have hb0 : Below w.heap.size w (((w.alloc (.cells #[.int .i64 0, .slice none 0 0] 56)).alloc (.cells #[.slice none 0 0] 54)).alloc (.cells #[.string s] 9)) := (((Below.refl _ w).alloc (Nat.le_refl _) _).alloc (by simp) _).alloc (by simp; omega) _
  have hsz : (((w.alloc (.cells #[.int .i64 0, .slice none 0 0] 56)).alloc (.cells #[.slice none 0 0] 54)).alloc (.cells #[.string s] 9)).heap.size = w.heap.size + 3 := by simp
  have hpi : PI w [] (((w.alloc (.cells #[.int .i64 0, .slice none 0 0] 56)).alloc (.cells #[.slice none 0 0] 54)).alloc (.cells #[.string s] 9)) := by
    have e1 := World.size_alloc w (.cells #[.int .i64 0, .slice none 0 0] 56)
    have b1 : ((w.alloc (.cells #[.int .i64 0, .slice none 0 0] 56)).alloc (.cells #[.slice none 0 0] 54)).cell? ⟨w.heap.size + 1, 0, none⟩ = some (.slice none 0 0) := by rw [← e1]; simp
    have b2 : ((w.alloc (.cells #[.int .i64 0, .slice none 0 0] 56)).alloc (.cells #[.slice none 0 0] 54)).frozen? ⟨w.heap.size + 1, 0, none⟩ = false := by rw [← e1]; simp
    have k := (Below.refl _ ((w.alloc (.cells #[.int .i64 0, .slice none 0 0] 56)).alloc (.cells #[.slice none 0 0] 54))).alloc (Nat.le_refl _) (.cells #[.string s] 9)
    have a0 : (w.alloc (.cells #[.int .i64 0, .slice none 0 0] 56)).cell? ⟨w.heap.size, 0, none⟩ = some (.int .i64 0) := by simp
    have a1 : (w.alloc (.cells #[.int .i64 0, .slice none 0 0] 56)).cell? ⟨w.heap.size, 1, none⟩ = some (.slice none 0 0) := by simp
    have z0 : (w.alloc (.cells #[.int .i64 0, .slice none 0 0] 56)).frozen? ⟨w.heap.size, 0, none⟩ = false := by simp
    have z1 : (w.alloc (.cells #[.int .i64 0, .slice none 0 0] 56)).frozen? ⟨w.heap.size, 1, none⟩ = false := by simp
    refine { good := fun x hx => by simp at hx, row := ⟨.slice none 0 0, f_keepA _ b1, OwnI.nil _ _⟩, bf := ?_, c0 := f_keepA _ (f_keepA _ a0), c1 := f_keepA _ (f_keepA _ a1), f0 := (fr_keepA _ (f_keepA _ a0)).trans ((fr_keepA _ a0).trans z0), f1 := (fr_keepA _ (f_keepA _ a1)).trans ((fr_keepA _ a1).trans z1), below := hb0, size := by rw [hsz]; omega }
    rw [k.frozen (block_lt_of_cell b1)]; exact b2
  have hct : (((w.alloc (.cells #[.int .i64 0, .slice none 0 0] 56)).alloc (.cells #[.slice none 0 0] 54)).alloc (.cells #[.string s] 9)).cell? ⟨w.heap.size + 2, 0, none⟩ = some (.string s) := by
    have e1 : ((w.alloc (.cells #[.int .i64 0, .slice none 0 0] 56)).alloc (.cells #[.slice none 0 0] 54)).heap.size = w.heap.size + 2 := by simp
    have hc := cell_one ((w.alloc (.cells #[.int .i64 0, .slice none 0 0] 56)).alloc (.cells #[.slice none 0 0] 54)) (.string s) 9
    rw [e1] at hc
    exact hc
  obtain ⟨W0, hW0⟩ : ∃ W0, (((w.alloc (.cells #[.int .i64 0, .slice none 0 0] 56)).alloc (.cells #[.slice none 0 0] 54)).alloc (.cells #[.string s] 9)) = W0 := ⟨_, rfl⟩
  rw [hW0] at hb0 hsz hpi hct ⊢
  clear hW0
  have hset0 : SetIs W0 := hset.below hb0
  refine wpIn_rangeFunc_ownH rfl (by omega) (gf := 104) (lb := #[.pointer (some ⟨w.heap.size + 2, 0, none⟩)]) rfl trivial (enters_of Tryz.func104 (by kernel_rfl) rfl)
    (tell_stops 2 (by omega) (w.heap.size + 2) w.heap.size s hs hG W0 (by omega) hct hset0) keepT_t (keepT_b (by omega)) (Below.refl _ _) (fun _ => rfl)
    (fun pre W => PI w pre W) (fun c pre W => PX w c pre W)
    (fun pre W W' row h hg hr => pi_grown h hg (fun r e => by have := hr r e; rw [hsz] at this; exact this))
    (fun c pre W W' row h hg hr => px_grown h hg (fun r e => by have := hr r e; rw [hsz] at this; exact this))
    hpi
    (fun x a' W => ∃ Bx, w.heap.size + 3 ≤ Bx ∧ (W.cell? ⟨Bx, 0, none⟩ = some (.string x.1.name) ∧ W.cell? ⟨Bx, 1, none⟩ = some (.bool x.1.has) ∧ W.cell? ⟨Bx, 2, none⟩ = some (.string x.1.value)) ∧ a' = actX w s x Bx)
    (fun x a' _ W W' row h hg hr => by
      obtain ⟨Bx, h1, ⟨h2, h3, h4⟩, h5⟩ := h
      exact ⟨Bx, h1, ⟨cell_kept h2 hg (fun r e => (hr r e).2), cell_kept h3 hg (fun r e => (hr r e).2), cell_kept h4 hg (fun r e => (hr r e).2)⟩, h5⟩)
    ?assign ?body ?done ?stop
  case assign =>
    rintro l pre x W K hI hK
    have HK := hK (actX w s x W.heap.size) (W.alloc (.cells #[.string x.1.name, .bool x.1.has, .string x.1.value] 65)) ((KeepsOthers.alloc _ _).from _) ⟨(Below.refl _ W).alloc (by have := hI.size; omega) _, fun h => f_keepA _ h⟩ (pi_alloc hI _) ⟨W.heap.size, hI.size, ⟨by simp, by simp, by simp⟩, rfl⟩
    clear hK
    unfold actX at HK
    simp only [encX]
    gi_wp2
    exact HK
  case body =>
    rintro l pre x a' W hl hrec hI ⟨Bx, hBx, ⟨x0, x1, x2⟩, rfl⟩ hlt
    unfold actX
    rw [hsz]
    obtain ⟨⟨rn, rh, rv⟩, rc⟩ := x
    simp only at x0 x1 x2 ⊢
    obtain ⟨v, hv, ho⟩ := hI.row
    have hlen : (pre.map (·.1)).length < 1002 := by rw [List.length_map]; exact hlt
    have HI : Hid (PI w pre W) := hI
    have hzW := hI.size
    by_cases c0 : rc = 0
    · subst c0
      have hgo : ∀ (v' : Value) (w1 : World), OwnI w1 (w.heap.size + 3) v' (pre.map (·.1) ++ [⟨rn, rh, rv⟩]) → (W.alloc (.cells #[.string rn, .bool rh, .string rv] 65)).grownBy w1 v.ownBlock → _ := fun v' w1 ho' hg => pi_append (s := s) HI.out hv ho ho' hg
      have HGO : Hid (∀ (v' : Value) (w1 : World), OwnI w1 (w.heap.size + 3) v' (pre.map (·.1) ++ [⟨rn, rh, rv⟩]) → (W.alloc (.cells #[.string rn, .bool rh, .string rv] 65)).grownBy w1 v.ownBlock → w1.cell? ⟨w.heap.size + 1, 0, none⟩ = some v ∧ w1.frozen? ⟨w.heap.size + 1, 0, none⟩ = false ∧ PI w (pre ++ [(⟨rn, rh, rv⟩, 0)]) (w1.setCell ⟨w.heap.size + 1, 0, none⟩ v') ∧ KeepT w.heap.size (w.heap.size + 2) s W (w1.setCell ⟨w.heap.size + 1, 0, none⟩ v') ∧ KeepsFrom (w.heap.size + 3) W (w1.setCell ⟨w.heap.size + 1, 0, none⟩ v')) := hgo
      have HO : Hid (OwnI W (w.heap.size + 3) v (pre.map (·.1))) := ho
      clear hgo ho hI
      gi_wp2_with (gi_at_builtin; refine wpListIn_append_own _ rfl _ _ 54 rfl (w.heap.size + 3) 65 i0 (.agg #[.string ⟨#[]⟩, .bool false, .string ⟨#[]⟩]) 3 40 Tryz.underlying54 hi hz0 hz1 hz2 rfl (by decide) v (pre.map (·.1)).length (recsW (pre.map (·.1))) rfl (World.ownsRow.alloc HO.out _) ⟨W.heap.size, 0, none⟩ 1 1 [.string rn, .bool rh, .string rv] rfl rfl (cells3_new _ _ _ _ _) (by simp [Value.oneCell']) (by unfold maxLen; omega) (by omega) (by simp; omega) ?_; intro v' w1 hown' hgrow _; obtain ⟨g', cap', hg'⟩ := ownsRow_succ hown'; obtain ⟨hc1, hf1, hp1, hk1, hkf1⟩ := HGO.out v' w1 (by unfold OwnI; rw [recsW_snoc, List.length_append]; exact hown') hgrow; subst hg')
      rw [List.length_map] at hkf1 hk1 hp1
      exact ⟨hkf1, hk1, hp1⟩
    · have e0 : (rc != 0) = true := by simpa using c0
      have hc0 := hI.c0
      have hc1 := hI.c1
      have hf0 := hI.f0
      have hf1 := hI.f1
      obtain ⟨q0, q1⟩ := two_set (v0 := .int .i64 rc) (v1 := .slice none 0 0) hc0 hc1
      have HX : Hid (PX w .ret (pre ++ [(⟨rn, rh, rv⟩, rc)]) ((W.setCell ⟨w.heap.size, 0, none⟩ (.int .i64 rc)).setCell ⟨w.heap.size, 1, none⟩ (.slice none 0 0))) := ⟨rfl, ⟨pre, _, rfl, c0, q0, q1⟩, (hI.below.setCell (p := ⟨w.heap.size, 0, none⟩) (Nat.le_refl _) _).setCell (p := ⟨w.heap.size, 1, none⟩) (Nat.le_refl _) _⟩
      clear ho hI q0 q1
      gi_wp2
      exact ⟨((KeepsOthers.setCell _ _ _).trans (KeepsOthers.setCell _ _ _)).from _, HX.out⟩
  case done =>
    rintro D ys W hD hS hI hK
    rw [hsz] at hD
    obtain ⟨v, hv, ho⟩ := hI.row
    have hrd : readP (pcs false [] s.data.toList) = some (ys.map (·.1)) := readP_all _ _ hS hI.good
    obtain ⟨va, vc, rfl, _⟩ := ho.at
    have hc0 := hI.c0
    have hc1 := hI.c1
    have hf0 := hI.f0
    have hf1 := hI.f1
    have hbW := hI.below
    have HO : Hid (OwnI W (w.heap.size + 3) (.slice va (ys.map (·.1)).length vc) (ys.map (·.1))) := ho
    have hnl : (ys.map (·.1)).length ≤ 1000000 := by
      rw [List.length_map, ← tells_len hS]
      have h1 := trims_len (pcs false [] s.data.toList)
      have h2 := (pcs_small s.data.toList.length s.data.toList false [] (Nat.le_refl _)).2
      rw [size_list] at h2
      omega
    by_cases hbig : 20 < (ys.map (·.1)).length
    · have HY : Hid (parseC s = 2 ∧ parseL s = []) := parse_many (by omega) hrd hbig
      have gb : (20 : Int) < ((ys.map (·.1)).length : Int) := by omega
      clear hrd hS hI ho
      generalize ys.map (·.1) = L at *
      obtain ⟨q0, q1⟩ := two_set (v0 := .int .i64 2) (v1 := .slice none 0 0) hc0 hc1
      have hK2 := ((KeepsOthers.setCell W ⟨w.heap.size, 0, none⟩ (.int .i64 2)).trans (KeepsOthers.setCell _ ⟨w.heap.size, 1, none⟩ (.slice none 0 0))).same D _ hK rfl
      obtain ⟨r0, r1, r2, r3⟩ := parse_end hD hK2 q0 q1 ((hbW.setCell (p := ⟨w.heap.size, 0, none⟩) (Nat.le_refl _) _).setCell (p := ⟨w.heap.size, 1, none⟩) (Nat.le_refl _) _) (OwnI.nil _ _) HY.out
      have RR : Hid (ParseOut s w.heap.size (.returned (.agg #[.int .i64 2, .slice none 0 0])) _ ∧ Below w.heap.size w _) := ⟨r2, r3⟩
      clear r2 r3
      gi_wp2
      refine ⟨by simp, .inl ⟨_, _, rfl, run_takeDeferred hK2, ?_⟩⟩
      exact ⟨.agg #[.int .i64 2, .slice none 0 0], by simp [results, Tryz.results52, go_sem, r0, r1], RR.out⟩
    · have HY : Hid (parseC s = 0 ∧ parseL s = ys.map (·.1)) := parse_ok (by omega) hrd hbig
      have gb : ¬ (20 : Int) < ((ys.map (·.1)).length : Int) := by omega
      clear hrd hS hI ho
      generalize ys.map (·.1) = L at *
      obtain ⟨q0, q1⟩ := two_set (v0 := .int .i64 0) (v1 := .slice va L.length vc) hc0 hc1
      have hK2 := ((KeepsOthers.setCell W ⟨w.heap.size, 0, none⟩ (.int .i64 0)).trans (KeepsOthers.setCell _ ⟨w.heap.size, 1, none⟩ (.slice va L.length vc))).same D _ hK rfl
      obtain ⟨r0, r1, r2, r3⟩ := parse_end hD hK2 q0 q1 ((hbW.setCell (p := ⟨w.heap.size, 0, none⟩) (Nat.le_refl _) _).setCell (p := ⟨w.heap.size, 1, none⟩) (Nat.le_refl _) _) (own_set (own_set HO.out (by omega)) (by omega)) HY.out
      have RR : Hid (ParseOut s w.heap.size (.returned (.agg #[.int .i64 0, .slice va L.length vc])) _ ∧ Below w.heap.size w _) := ⟨r2, r3⟩
      clear r2 r3
      gi_wp2
      refine ⟨by simp, .inl ⟨_, _, rfl, run_takeDeferred hK2, ?_⟩⟩
      exact ⟨.agg #[.int .i64 0, .slice va L.length vc], by simp [results, Tryz.results52, go_sem, r0, r1], RR.out⟩
  case stop =>
    rintro D c pre W hD ⟨d, hd, ht⟩ ⟨rfl, ⟨pr, x, rfl, hx, q0, q1⟩, hbW⟩ hK
    rw [hsz] at hD
    obtain ⟨t, htd, htx⟩ := tells_last ht
    have hx5 : x.2 = 5 ∧ readR t = none := by
      rcases htx with h | h
      · exact absurd h.1 hx
      · exact h
    have hrd : readP (pcs false [] s.data.toList) = none := readP_none _ t (hd.subset htd) hx5.2
    have HY : Hid (parseC s = 5 ∧ parseL s = []) := parse_bad (by omega) hrd
    rw [hx5.1] at q0
    obtain ⟨r0, r1, r2, r3⟩ := parse_end hD hK q0 q1 hbW (OwnI.nil _ _) HY.out
    have RR : Hid (ParseOut s w.heap.size (.returned (.agg #[.int .i64 5, .slice none 0 0])) _ ∧ Below w.heap.size w _) := ⟨r2, r3⟩
    clear r2 r3
    gi_wp2
    refine ⟨by simp, .inl ⟨_, _, rfl, run_takeDeferred hK, ?_⟩⟩
    exact ⟨.agg #[.int .i64 5, .slice none 0 0], by simp [results, Tryz.results52, go_sem, r0, r1], RR.out⟩
end Go.Proofs.YtgfbahjpaaanoaaGreatDoor
/-
  markText: a text of its own for each number.
-/
namespace Go.Proofs.YtgfbahjpaaanoaaGreatDoor
open Go.ChangeShapes Go.WideShapes Go.ChangeAt Go.RowKit
def mkD (k : Nat) (o : ByteArray) : ByteArray := if _h : k = 0 then o else mkD (k / 10) ((⟨#[UInt8.ofNat (48 + k % 10)]⟩ : ByteArray) ++ o)
termination_by k
decreasing_by omega
theorem mkD_zero (o : ByteArray) : mkD 0 o = o := by rw [mkD]; simp
theorem mkD_more {k : Nat} (h : k ≠ 0) (o : ByteArray) : mkD k o = mkD (k / 10) ((⟨#[UInt8.ofNat (48 + k % 10)]⟩ : ByteArray) ++ o) := by rw [mkD, dif_neg h]
def mkT (k : Nat) : ByteArray := (⟨#[109]⟩ : ByteArray) ++ mkD k ⟨#[]⟩
theorem one_byteM (c : Int) (x : UInt8) (hx : (x.toNat : Int) = c) (W : World) (B cap : Nat) (hc : W.cell? ⟨B, 0, none⟩ = some (.int .u8 c)) :
    (convert 22 9 (.slice (some ⟨B, 0, none⟩) 1 cap)).run Tryz.prog W = .ok (.string ⟨#[x]⟩) W := by
  have := run_convert_bytes_back (P := Tryz.prog) W 22 9 5 ⟨B, 0, none⟩ cap [x] Tryz.underlying22 Tryz.underlying5 Tryz.underlying9 (fun j hj => by
    obtain rfl : j = 0 := by simp at hj; omega
    simp [Addr.add, hc, hx])
  simpa using this
end Go.Proofs.YtgfbahjpaaanoaaGreatDoor
/-
  All that was there, but for one block, is as it was.
-/
namespace Go.Proofs.YtgfbahjpaaanoaaGreatDoor
open Go.ChangeShapes Go.WideShapes Go.ChangeAt Go.RowKit
/-- All that was there, but for block B, is as it was. -/
structure Apart (B : Nat) (w w' : World) : Prop where
  size : w.heap.size ≤ w'.heap.size
  cell : ∀ b o, b < w.heap.size → b ≠ B → w'.cell? ⟨b, o, none⟩ = w.cell? ⟨b, o, none⟩
  frozen : ∀ b o, b < w.heap.size → b ≠ B → w'.frozen? ⟨b, o, none⟩ = w.frozen? ⟨b, o, none⟩
theorem Apart.refl (B : Nat) (w : World) : Apart B w w := ⟨Nat.le_refl _, fun _ _ _ _ => rfl, fun _ _ _ _ => rfl⟩
theorem Apart.trans {B : Nat} {w w1 w2 : World} (h : Apart B w w1) (k : Apart B w1 w2) : Apart B w w2 :=
  ⟨Nat.le_trans h.size k.size, fun b o hb hn => by rw [k.cell b o (Nat.lt_of_lt_of_le hb h.size) hn, h.cell b o hb hn], fun b o hb hn => by rw [k.frozen b o (Nat.lt_of_lt_of_le hb h.size) hn, h.frozen b o hb hn]⟩
theorem Apart.below {B : Nat} {w w' : World} (h : Below w.heap.size w w') : Apart B w w' :=
  ⟨h.size, fun b o hb _ => h.cell (p := ⟨b, o, none⟩) hb, fun b o hb _ => h.frozen (p := ⟨b, o, none⟩) hb⟩
theorem Apart.alloc (B : Nat) (w : World) (o : Obj) : Apart B w (w.alloc o) := .below ((Below.refl _ _).alloc (Nat.le_refl _) _)
theorem Apart.set (B o : Nat) (w : World) (v : Value) : Apart B w (w.setCell ⟨B, o, none⟩ v) := by
  refine ⟨by simp, fun b o' _ hn => ?_, fun b o' _ hn => ?_⟩
  · rw [World.cell?_setCell_other _ _ _ _ (by intro h; have := congrArg Addr.block h; simp at this; omega)]
  · rw [World.frozen?_setCell]
end Go.Proofs.YtgfbahjpaaanoaaGreatDoor
/-
  markItemS and heldItemS: marks laid into a list of items, and found again.
-/
namespace Go.Proofs.YtgfbahjpaaanoaaGreatDoor
open Go.ChangeShapes Go.WideShapes Go.ChangeAt Go.RowKit Go.Sort
def mkR (k : Nat) (j : Nat) : Rec := ⟨mkT (k + 3 * j), decide ((k + 3 * j + 1) % 3 = 0), mkT (k + 3 * j + 2)⟩
def mkL (k n : Nat) : List Rec := (List.range n).map (mkR k)
theorem mkL_len (k n : Nat) : (mkL k n).length = n := by simp [mkL]
theorem mkL_get {k n i : Nat} (h : i < n) : (mkL k n)[i]? = some (mkR k i) := by simp [mkL, h]
theorem cell_set_same {w : World} {g o : Nat} {u v : Value} (h : w.cell? ⟨g, o, none⟩ = some u) : (w.setCell ⟨g, o, none⟩ v).cell? ⟨g, o, none⟩ = some v := World.cell?_setCell_same _ _ _ h
theorem cell_set_off {w : World} {g o o' : Nat} {v : Value} (h : o ≠ o') : (w.setCell ⟨g, o', none⟩ v).cell? ⟨g, o, none⟩ = w.cell? ⟨g, o, none⟩ :=
  World.cell?_setCell_other _ _ _ _ (by intro e; have := congrArg Addr.off e; simp at this; omega)
/-- One field of one item written. -/
theorem put_name {w : World} {g off i : Nat} {L : List Rec} {r : Rec} (h : ItemsAt w g off L) (hr : L[i]? = some r) (n : ByteArray) :
    ItemsAt (w.setCell ⟨g, off + i * 3, none⟩ (.string n)) g off (L.set i { r with name := n }) := by
  intro j q hq
  by_cases e : j = i
  · subst e
    have hl := (List.getElem?_eq_some_iff.1 hr).1
    rw [List.getElem?_set_self hl] at hq
    obtain rfl := Option.some.inj hq
    obtain ⟨a, b, c⟩ := h j r hr
    exact ⟨cell_set_same a, by rw [cell_set_off (by omega)]; exact b, by rw [cell_set_off (by omega)]; exact c⟩
  · rw [List.getElem?_set_ne (fun k => e k.symm)] at hq
    obtain ⟨a, b, c⟩ := h j q hq
    exact ⟨by rw [cell_set_off (by omega)]; exact a, by rw [cell_set_off (by omega)]; exact b, by rw [cell_set_off (by omega)]; exact c⟩
theorem put_has {w : World} {g off i : Nat} {L : List Rec} {r : Rec} (h : ItemsAt w g off L) (hr : L[i]? = some r) (n : Bool) :
    ItemsAt (w.setCell ⟨g, off + i * 3 + 1, none⟩ (.bool n)) g off (L.set i { r with has := n }) := by
  intro j q hq
  by_cases e : j = i
  · subst e
    have hl := (List.getElem?_eq_some_iff.1 hr).1
    rw [List.getElem?_set_self hl] at hq
    obtain rfl := Option.some.inj hq
    obtain ⟨a, b, c⟩ := h j r hr
    exact ⟨by rw [cell_set_off (by omega)]; exact a, cell_set_same b, by rw [cell_set_off (by omega)]; exact c⟩
  · rw [List.getElem?_set_ne (fun k => e k.symm)] at hq
    obtain ⟨a, b, c⟩ := h j q hq
    exact ⟨by rw [cell_set_off (by omega)]; exact a, by rw [cell_set_off (by omega)]; exact b, by rw [cell_set_off (by omega)]; exact c⟩
theorem put_value {w : World} {g off i : Nat} {L : List Rec} {r : Rec} (h : ItemsAt w g off L) (hr : L[i]? = some r) (n : ByteArray) :
    ItemsAt (w.setCell ⟨g, off + i * 3 + 2, none⟩ (.string n)) g off (L.set i { r with value := n }) := by
  intro j q hq
  by_cases e : j = i
  · subst e
    have hl := (List.getElem?_eq_some_iff.1 hr).1
    rw [List.getElem?_set_self hl] at hq
    obtain rfl := Option.some.inj hq
    obtain ⟨a, b, c⟩ := h j r hr
    exact ⟨by rw [cell_set_off (by omega)]; exact a, by rw [cell_set_off (by omega)]; exact b, cell_set_same c⟩
  · rw [List.getElem?_set_ne (fun k => e k.symm)] at hq
    obtain ⟨a, b, c⟩ := h j q hq
    exact ⟨by rw [cell_set_off (by omega)]; exact a, by rw [cell_set_off (by omega)]; exact b, by rw [cell_set_off (by omega)]; exact c⟩
/-- The state of the marking loop: j items are marked. -/
structure Marked (w : World) (g off : Nat) (k n j : Nat) (L : List Rec) (W : World) : Prop where
  len : L.length = n
  done : ∀ i, i < j → L[i]? = some (mkR k i)
  items : ItemsAt W g off L
  thaw : ∀ o, W.frozen? ⟨g, o, none⟩ = false
  apart : Apart g w W
  low : Below g w W
  lt : g < W.heap.size
theorem Marked.below {w : World} {g off k n j : Nat} {L : List Rec} {W W' : World} (h : Marked w g off k n j L W) (hb : Below W.heap.size W W') : Marked w g off k n j L W' :=
  ⟨h.len, h.done, h.items.keep hb, fun o => by rw [hb.frozen (p := ⟨g, o, none⟩) h.lt, h.thaw], h.apart.trans (.below hb), h.low.trans (hb.mono (Nat.le_of_lt h.lt)), Nat.lt_of_lt_of_le h.lt hb.size⟩
theorem Marked.set {w : World} {g off k n j o : Nat} {L L' : List Rec} {W : World} {v : Value} (h : Marked w g off k n j L W) (hl : L'.length = L.length) (hd : ∀ i, i < j → L'[i]? = L[i]?) (hi : ItemsAt (W.setCell ⟨g, o, none⟩ v) g off L') : Marked w g off k n j L' (W.setCell ⟨g, o, none⟩ v) :=
  ⟨hl.trans h.len, fun i hi => (hd i hi).trans (h.done i hi), hi, fun o => by rw [World.frozen?_setCell, h.thaw], h.apart.trans (.set _ _ _ _), h.low.setCell (Nat.le_refl _) _, by simpa using h.lt⟩
end Go.Proofs.YtgfbahjpaaanoaaGreatDoor
/-
  markItemS and heldItemS.
-/
namespace Go.Proofs.YtgfbahjpaaanoaaGreatDoor
open Go.ChangeShapes Go.WideShapes Go.ChangeAt Go.RowKit Go.Sort
end Go.Proofs.YtgfbahjpaaanoaaGreatDoor
/-
  The laws' comparing of two lists of items that are alike.
-/
namespace Go.Proofs.YtgfbahjpaaanoaaGreatDoor
open Go.ChangeShapes Go.WideShapes Go.ChangeAt Go.RowKit Go.Sort
end Go.Proofs.YtgfbahjpaaanoaaGreatDoor
/-
  A list of items as a value: compared, marked, held.
-/
namespace Go.Proofs.YtgfbahjpaaanoaaGreatDoor
open Go.ChangeShapes Go.WideShapes Go.ChangeAt Go.RowKit Go.Sort
def LV (w : World) (v : Value) (l : List Rec) : Prop :=
  (v = .slice none 0 0 ∧ l = []) ∨ ∃ g cap, v = .slice (some ⟨g, 0, none⟩) l.length cap ∧ g < w.heap.size ∧ ItemsAt w g 0 l ∧ ∀ o, w.frozen? ⟨g, o, none⟩ = false
theorem OwnI.lv {w : World} {base : Nat} {v : Value} {l : List Rec} (h : OwnI w base v l) : LV w v l ∧ ∀ b, v.ownBlock = some b → base ≤ b := by
  have h0 := h
  obtain ⟨_, h1 | ⟨g, c, cur, rfl, hg, hh, _⟩⟩ := h
  · have e : l = [] := List.eq_nil_of_length_eq_zero h1.2
    exact ⟨.inl ⟨h1.1, e⟩, fun b hb => by rw [h1.1] at hb; cases hb⟩
  · refine ⟨.inr ⟨g, c, rfl, (Array.getElem?_eq_some_iff.1 hh).1, ?_, fun o => ?_⟩, fun b hb => ?_⟩
    · obtain ⟨a, c', e, hi⟩ := h0.at
      rcases hi with rfl | ⟨b, off, rfl, hat⟩
      · intro i r hr; simp at hr
      · simp only [Value.slice.injEq, Option.some.injEq] at e
        obtain ⟨e, _⟩ := e
        have e1 := congrArg Addr.block e
        have e2 := congrArg Addr.off e
        simp only at e1 e2
        rw [e1, e2]
        exact hat
    · simp [World.frozen?, hh]
    · simp only [Value.ownBlock, Option.some.injEq] at hb; omega
theorem LV.below {w w' : World} {v : Value} {l : List Rec} (h : LV w v l) (hb : Below w.heap.size w w') : LV w' v l := by
  rcases h with h | ⟨g, c, e, hg, hi, hf⟩
  · exact .inl h
  · exact .inr ⟨g, c, e, Nat.lt_of_lt_of_le hg hb.size, hi.keep hb, fun o => by rw [hb.frozen (p := ⟨g, o, none⟩) hg, hf]⟩
/-- All that was there, but for the memory of v, is as it was. -/
structure AV (v : Value) (w w' : World) : Prop where
  size : w.heap.size ≤ w'.heap.size
  cell : ∀ b o, b < w.heap.size → v.ownBlock ≠ some b → w'.cell? ⟨b, o, none⟩ = w.cell? ⟨b, o, none⟩
  frozen : ∀ b o, b < w.heap.size → v.ownBlock ≠ some b → w'.frozen? ⟨b, o, none⟩ = w.frozen? ⟨b, o, none⟩
theorem AV.below {v : Value} {w w' : World} (h : Below w.heap.size w w') : AV v w w' :=
  ⟨h.size, fun b o hb _ => h.cell (p := ⟨b, o, none⟩) hb, fun b o hb _ => h.frozen (p := ⟨b, o, none⟩) hb⟩
theorem LV.av {w w' : World} {v v1 : Value} {l : List Rec} (h : LV w v1 l) (k : AV v w w') (hne : ∀ b, v1.ownBlock = some b → v.ownBlock ≠ some b) : LV w' v1 l := by
  rcases h with h | ⟨g, c, rfl, hg, hi, hf⟩
  · exact .inl h
  · have hn := hne g rfl
    exact .inr ⟨g, c, rfl, Nat.lt_of_lt_of_le hg k.size, fun i r hr => by rw [k.cell g _ hg hn, k.cell g _ hg hn, k.cell g _ hg hn]; exact hi i r hr, fun o => by rw [k.frozen g o hg hn, hf]⟩
end Go.Proofs.YtgfbahjpaaanoaaGreatDoor
/-
  ParseItems on both sides, for every text.
-/
namespace Go.Proofs.YtgfbahjpaaanoaaGreatDoor
open Go.ChangeShapes Go.WideShapes Go.ChangeAt Go.RowKit Go.Sort
theorem parseL_len (s : ByteArray) : (parseL s).length ≤ 20 := by
  unfold parseL
  split
  · simp
  · split
    · simp
    · split
      · simp
      · omega
set_option maxHeartbeats 1000000 in
theorem specParse_fn (s : ByteArray) (w : World) :
    Calls Tryz.prog 91 #[.string s] w fun e w' => ParseOut s w.heap.size e w' ∧ Below w.heap.size w w' := by
  by_cases hs : 1000 < s.size
  · have hh : (1000 : Int) < s.size := by omega
    have HL : Hid (parseC s = 2 ∧ parseL s = []) := parse_long hs
    go_enter Tryz.func91, Tryz.ntmps91
    go_wp2
    exact bodyPost_ret (v := .agg #[.int .i64 2, .slice none 0 0]) (by simp [results, Tryz.results91, go_sem]) rfl ⟨ParseOut.mk HL.out (OwnI.nil _ _), (Below.refl _ _).alloc (Nat.le_refl _) _⟩
  have hh : ¬ (1000 : Int) < s.size := by omega
  have HP : Hid (∀ W, Calls Tryz.prog 119 #[.string s] W fun e w' => ParseRes s W.heap.size e w' ∧ Below W.heap.size W w') := fun W => l2Parse_any s W hs
  clear hs
  go_enter Tryz.func91, Tryz.ntmps91
  go_wp2_with fail
  refine (HP.out _).mono ?_
  rintro e w1 ⟨⟨v, rfl, ho⟩, hb⟩
  have p0 : w1.cell? ⟨w.heap.size, 0, none⟩ = some (.int .i64 0) := by rw [hb.cell (p := ⟨w.heap.size, 0, none⟩) (by simp)]; simp
  have p1 : w1.cell? ⟨w.heap.size, 1, none⟩ = some (.slice none 0 0) := by rw [hb.cell (p := ⟨w.heap.size, 1, none⟩) (by simp)]; simp
  have f0 : w1.frozen? ⟨w.heap.size, 0, none⟩ = false := by rw [hb.frozen (p := ⟨w.heap.size, 0, none⟩) (by simp)]; simp
  have f1 : w1.frozen? ⟨w.heap.size, 1, none⟩ = false := by rw [hb.frozen (p := ⟨w.heap.size, 1, none⟩) (by simp)]; simp
  have KB : Hid (Below w.heap.size w w1) := ((Below.refl _ _).alloc (Nat.le_refl _) _).trans (hb.mono (by simp))
  have ho2 : OwnI w1 (w.heap.size + 1) v (parseL s) := by simpa using ho
  obtain ⟨va, vc, hv, _⟩ := ho2.at
  generalize hn : (parseL s).length = vn at hv
  subst hv
  have KO : Hid (OwnI w1 (w.heap.size + 1) (.slice va vn vc) (parseL s)) := ho2
  clear hb ho HP ho2 hn
  obtain ⟨c, hc⟩ : ∃ c, Hid (parseC s = c) := ⟨_, rfl⟩
  rw [hc.out]
  obtain ⟨q0, q1⟩ := two_set (v0 := .int .i64 c) (v1 := .slice va vn vc) p0 p1
  go_wp2_with fail
  refine bodyPost_ret (v := .agg #[.int .i64 c, .slice va vn vc]) (by simp [results, Tryz.results91, go_sem, q0, q1]) rfl ⟨ParseOut.mk ⟨hc.out, rfl⟩ ?_, (KB.out.setCell (Nat.le_refl _) _).setCell (Nat.le_refl _) _⟩
  exact ((own_set (own_set KO.out (Nat.lt_succ_self _)) (Nat.lt_succ_self _))).lower (Nat.le_succ _)
set_option maxHeartbeats 1000000 in
theorem implParse_fn (s : ByteArray) (w : World) (hset : SetIs w) :
    Calls Tryz.prog 52 #[.string s] w fun e w' => ParseOut s w.heap.size e w' ∧ Below w.heap.size w w' := by
  by_cases hs : 1000 < s.size
  · have hh : (1000 : Int) < s.size := by omega
    have HL : Hid (parseC s = 2 ∧ parseL s = []) := parse_long hs
    clear hset
    go_enter Tryz.func52, Tryz.ntmps52
    go_wp2
    exact bodyPost_ret (v := .agg #[.int .i64 2, .slice none 0 0]) (by simp [results, Tryz.results52, go_sem]) rfl ⟨ParseOut.mk HL.out (OwnI.nil _ _), (Below.refl _ _).alloc (Nat.le_refl _) _⟩
  · exact implParse_loop s w (by omega) hset
end Go.Proofs.YtgfbahjpaaanoaaGreatDoor
/-
  The items of all values of a name, on both sides.
-/
namespace Go.Proofs.YtgfbahjpaaanoaaGreatDoor
open Go.ChangeShapes Go.WideShapes Go.ChangeAt Go.RowKit Go.Sort
theorem readR_word {s : ByteArray} {r : Rec} (h : readR s = some r) : wordS r.name = true := by
  unfold readR at h
  split at h
  · cases h
  · rename_i hw
    have hw' : wordS (s.extract 0 (eqAt s.data.toList)) = true := by simpa using hw
    split at h
    · rename_i he
      obtain rfl := Option.some.inj h
      rw [he] at hw'
      have e : s.extract 0 s.size = s := by apply ByteArray.ext; simp
      rw [e] at hw'
      exact hw'
    · split at h
      · obtain rfl := Option.some.inj h
        exact hw'
      · split at h
        · obtain rfl := Option.some.inj h
          exact hw'
        · cases h
theorem readP_word : ∀ (ps : List (List UInt8)) (L : List Rec), readP ps = some L → ∀ r ∈ L, wordS r.name = true
  | [], L, h, r, hr => by
    simp [readP] at h
    subst h
    simp at hr
  | p :: ps, L, h, r, hr => by
    rw [readP] at h
    split at h
    · exact readP_word ps L h r hr
    · split at h
      · cases h
      · rename_i q hq
        obtain ⟨M, hM, rfl⟩ := Option.map_eq_some_iff.1 h
        rcases List.mem_cons.1 hr with rfl | hr
        · exact readR_word hq
        · exact readP_word ps M hM r hr
theorem parse_word {s : ByteArray} {r : Rec} (h : r ∈ parseL s) : wordS r.name = true := by
  unfold parseL at h
  split at h
  · simp at h
  · split at h
    · simp at h
    · rename_i L hL
      split at h
      · simp at h
      · exact readP_word _ L hL r h
theorem parse_empty : parseC ⟨#[]⟩ = 0 ∧ parseL ⟨#[]⟩ = [] := by decide +kernel
/-- All values of a name, one text. -/
def underT (x : ByteArray) (l : List Hdr) : ByteArray := ⟨(hjoinL (valsOf x l)).toArray⟩
theorem under_none {x : ByteArray} {l : List Hdr} (h : valsOf x l = []) : underT x l = ⟨#[]⟩ := by
  unfold underT
  rw [h]
  rfl
theorem under_size {x : ByteArray} {l : List Hdr} (h0 : headsC l = 0) : (underT x l).size ≤ 4040 := by
  obtain ⟨h20, hz⟩ := first_sizes h0
  have h1 := hjoinL_len _ (valsOf_mem (x := x) hz)
  have h2 := valsOf_len x l
  have h3 : (valsOf x l).length * 202 ≤ 20 * 202 := Nat.mul_le_mul_right _ (by omega)
  show (hjoinL (valsOf x l)).toArray.size ≤ _
  rw [List.size_toArray]
  omega
theorem under_join {l : List Hdr} {name : ByteArray} (h0 : headsC l = 0) (hw : wordS name = true) : joinT l name = underT (lowS name) l := by
  have ha : askC l name = 0 := by rw [askC, if_pos h0, if_pos hw]
  by_cases hv : valsOf (lowS name) l = []
  · rw [(join_none ha hv).2, under_none hv]
  · rw [(join_some ha hv).2]; rfl
def ItemsOut (t : ByteArray) (base : Nat) (e : Ending) (w : World) : Prop := ∃ a n k, e = .returned (.tuple #[.slice a n k, .bool (decide (parseC t = 0))]) ∧ OwnI w base (.slice a n k) (parseL t)
theorem ItemsOut.mk {t : ByteArray} {base : Nat} {w : World} {a : Option Addr} {n k : Nat} {b : Bool} (h : decide (parseC t = 0) = b) (ho : OwnI w base (.slice a n k) (parseL t)) : ItemsOut t base (.returned (.tuple #[.slice a n k, .bool b])) w := ⟨a, n, k, by rw [h], ho⟩
set_option maxRecDepth 100000 in
set_option maxHeartbeats 4000000 in
theorem l6Items_any (w : World) (a : Option Addr) (cap : Nat) (l : List Hdr) (name : ByteArray) (h0 : headsC l = 0) (hnm : name.size ≤ 64) (hi : HdsIn w a l) :
    Calls Tryz.prog 68 #[.slice a l.length cap, .string name] w fun e w' => ItemsOut (underT (lowS name) l) w.heap.size e w' ∧ Below w.heap.size w w' := by
  obtain ⟨h20, hz⟩ := first_sizes h0
  have H1 := l4Join_any w a cap l name h20 hz hnm hi
  clear hi hz h0
  generalize l.length = n at *
  by_cases hv : valsOf (lowS name) l = []
  · have HU : Hid (underT (lowS name) l = ⟨#[]⟩) := under_none hv
    rw [hv, show anyV [] = false from rfl] at H1
    generalize (⟨(hjoinL []).toArray⟩ : ByteArray) = jt at *
    clear hv
    go_enter Tryz.func68, Tryz.ntmps68
    go_wp2_with fail
    refine H1.mono ?_
    rintro e w1 ⟨rfl, hb1⟩
    have HB : Hid (Below w.heap.size w w1) := hb1
    clear hb1
    go_wp2_with fail
    go_ret2
    exact ⟨ItemsOut.mk (by rw [HU.out, parse_empty.1]; rfl) (by rw [HU.out, parse_empty.2]; exact OwnI.nil _ _), HB.out⟩
  · have hy : anyV (valsOf (lowS name) l) = true := by simpa [anyV] using hv
    rw [hy, show (⟨(hjoinL (valsOf (lowS name) l)).toArray⟩ : ByteArray) = underT (lowS name) l from rfl] at H1
    clear hy hv
    have HP : Hid (∀ W, Calls Tryz.prog 91 #[.string (underT (lowS name) l)] W fun e w' => ParseOut (underT (lowS name) l) W.heap.size e w' ∧ Below W.heap.size W w') := fun W => specParse_fn _ W
    obtain ⟨t, ht⟩ : ∃ t, Hid (underT (lowS name) l = t) := ⟨_, rfl⟩
    rw [ht.out] at H1 HP ⊢
    clear ht
    go_enter Tryz.func68, Tryz.ntmps68
    go_wp2_with fail
    refine H1.mono ?_
    rintro e w1 ⟨rfl, hb1⟩
    have HB : Hid (Below w.heap.size w w1) := hb1
    clear hb1 H1
    go_wp2_with fail
    refine (HP.out _).mono ?_
    rintro e w2 ⟨⟨v, rfl, ho⟩, hb2⟩
    obtain ⟨va, vc, hv, _⟩ := ho.at
    generalize (parseL t).length = vn at hv
    subst hv
    obtain ⟨c, hcc⟩ : ∃ c, Hid (parseC t = c) := ⟨_, rfl⟩
    rw [hcc.out]
    have b2 := HB.out.trans (hb2.mono HB.out.size)
    have al : Below w2.heap.size w2 (w2.alloc (.cells #[.int .i64 c, .slice va vn vc] 56)) := (Below.refl _ _).alloc (Nat.le_refl _) _
    obtain ⟨W, hW⟩ : ∃ X, Hid (X = w2.alloc (.cells #[.int .i64 c, .slice va vn vc] 56)) := ⟨_, rfl⟩
    have K : Hid (Below w.heap.size w W ∧ OwnI W w.heap.size (.slice va vn vc) (parseL t) ∧ W.cell? ⟨w2.heap.size, 0, none⟩ = some (.int .i64 c) ∧ W.cell? ⟨w2.heap.size, 1, none⟩ = some (.slice va vn vc)) := by
      rw [hW.out]
      exact ⟨b2.trans (al.mono b2.size), (ho.below al).lower HB.out.size, by simp, by simp⟩
    clear hb2 ho HB b2 al HP
    go_upto_region 5 with fail
    rw [← hW.out]
    clear hW
    have q0 := K.out.2.2.1
    have q1 := K.out.2.2.2
    have HD : Hid (decide (parseC t = 0) = (c == 0)) := by
      show _ = _
      rw [hcc.out]
      rfl
    generalize w2.heap.size = B2 at *
    go_quiet (fail)
    go_wp2_with fail
    go_ret2
    refine ⟨ItemsOut.mk HD.out ?_, ?_⟩
    · exact K.out.2.1.below (below_drewN (Below.refl _ _) _)
    · exact below_drewN K.out.1 _
theorem tfieldU (c : Int) (t : ByteArray) (w : World) : (Instr.field 98 (.agg #[.int .i64 c, .string t]) 1).run Tryz.prog w = .ok (.string t) w := by kernel_rfl
set_option maxRecDepth 100000 in
set_option maxHeartbeats 4000000 in
theorem itemsUnder_any (w : World) (a : Option Addr) (cap : Nat) (l : List Hdr) (name : ByteArray) (h0 : headsC l = 0) (hw : wordS name = true) (hcap : l.length ≤ cap) (hset : SetIs w) (hi : HdsIn w a l) :
    Calls Tryz.prog 25 #[.slice a l.length cap, .string name] w fun e w' => ParseOut (underT (lowS name) l) w.heap.size e w' ∧ Below w.heap.size w w' := by
  have h20 := (first_sizes h0).1
  have HJ : Hid (∀ W, Below w.heap.size w W → Calls Tryz.prog 53 #[.slice a l.length cap, .string name] W fun e w' => e = .returned (.agg #[.int .i64 (joinC l name), .string (joinT l name)]) ∧ Below W.heap.size W w') := fun W hb => implJoin_any W a cap l name (by omega) hcap (hset.below hb) (hi.keep hb)
  have HP : Hid (∀ W, Below w.heap.size w W → Calls Tryz.prog 52 #[.string (underT (lowS name) l)] W fun e w' => ParseOut (underT (lowS name) l) W.heap.size e w' ∧ Below W.heap.size W w') := fun W hb => implParse_fn _ W (hset.below hb)
  rw [under_join h0 hw] at HJ
  obtain ⟨t, ht⟩ : ∃ t, Hid (underT (lowS name) l = t) := ⟨_, rfl⟩
  rw [ht.out] at HJ HP ⊢
  clear ht hi hset h0 hw hcap h20
  generalize l.length = n at *
  generalize joinC l name = jc at *
  go_enter Tryz.func25, Tryz.ntmps25
  go_wp2_with fail
  refine (HJ.out _ ((Below.refl _ _).alloc (Nat.le_refl _) _)).mono ?_
  rintro e w1 ⟨rfl, hb1⟩
  rw [World.size_alloc] at hb1
  have HB1 : Hid (Below (w.heap.size + 1) (w.alloc (.cells #[.int .i64 0, .slice none 0 0] 56)) w1) := hb1
  have hz1 : w.heap.size + 1 ≤ w1.heap.size := by have := hb1.size; rwa [World.size_alloc] at this
  have HBw : Hid (Below w.heap.size w w1) := ((Below.refl _ _).alloc (Nat.le_refl _) _).trans (hb1.mono (Nat.le_succ _))
  clear hb1 HJ
  have hf := tfieldU jc t
  go_wp2_with fail
  refine (HP.out _ HBw.out).mono ?_
  rintro e w2 ⟨⟨v, rfl, ho⟩, hb2⟩
  obtain ⟨va, vc, hv, _⟩ := ho.at
  generalize (parseL t).length = vn at hv
  subst hv
  obtain ⟨c, hcc⟩ : ∃ c, Hid (parseC t = c) := ⟨_, rfl⟩
  rw [hcc.out]
  have hb := HB1.out.trans (hb2.mono hz1)
  have p0 : w2.cell? ⟨w.heap.size, 0, none⟩ = some (.int .i64 0) := by rw [hb.cell (p := ⟨w.heap.size, 0, none⟩) (by simp)]; simp
  have p1 : w2.cell? ⟨w.heap.size, 1, none⟩ = some (.slice none 0 0) := by rw [hb.cell (p := ⟨w.heap.size, 1, none⟩) (by simp)]; simp
  have f0 : w2.frozen? ⟨w.heap.size, 0, none⟩ = false := by rw [hb.frozen (p := ⟨w.heap.size, 0, none⟩) (by simp)]; simp
  have f1 : w2.frozen? ⟨w.heap.size, 1, none⟩ = false := by rw [hb.frozen (p := ⟨w.heap.size, 1, none⟩) (by simp)]; simp
  have KB : Hid (Below w.heap.size w w2) := HBw.out.trans (hb2.mono HBw.out.size)
  have KO : Hid (OwnI w2 (w.heap.size + 1) (.slice va vn vc) (parseL t)) := ho.lower hz1
  clear hb hb2 ho HB1 HBw HP hf
  obtain ⟨q0, q1⟩ := two_set (v0 := .int .i64 c) (v1 := .slice va vn vc) p0 p1
  go_wp2_with fail
  refine bodyPost_ret (v := .agg #[.int .i64 c, .slice va vn vc]) (by simp [results, Tryz.results25, go_sem, q0, q1]) rfl ⟨ParseOut.mk ⟨hcc.out, rfl⟩ ?_, (KB.out.setCell (Nat.le_refl _) _).setCell (Nat.le_refl _) _⟩
  exact ((own_set (own_set KO.out (Nat.lt_succ_self _)) (Nat.lt_succ_self _))).lower (Nat.le_succ _)
end Go.Proofs.YtgfbahjpaaanoaaGreatDoor
/-
  The laws' comparing of two lists of items that are alike; what the model's l2Find and FindItem answer.
-/
namespace Go.Proofs.YtgfbahjpaaanoaaGreatDoor
open Go.ChangeShapes Go.WideShapes Go.ChangeAt Go.RowKit Go.Sort
theorem str_ne {a b : ByteArray} (h : a ≠ b) : (a.toList == b.toList) = false := by
  rw [beq_eq_false_iff_ne]
  intro e
  rw [ByteArray.toList_eq, ByteArray.toList_eq] at e
  exact h (ByteArray.ext (Array.ext' e))
/-- The place of the first item of that name, small and large letters alike; -1: there is none. -/
def findR (name : ByteArray) (k : Nat) : List Rec → Int
  | [] => -1
  | r :: l => if lowS r.name = lowS name then (k : Int) else findR name (k + 1) l
def lowSame (a b : ByteArray) : Bool := decide (lowS a = lowS b)
def ShortNames (l : List Rec) : Prop := ∀ (i : Nat) r, l[i]? = some r → r.name.size ≤ 1048576
set_option maxHeartbeats 2000000 in
theorem l2Find_any (w : World) (a : Option Addr) (cap : Nat) (l : List Rec) (name : ByteArray) (hl : l.length ≤ 1048576) (hnm : name.size ≤ 1048576) (hs : ShortNames l) (hi : l = [] ∨ ∃ b off, a = some ⟨b, off, none⟩ ∧ ItemsAt w b off l) :
    Calls Tryz.prog 92 #[.slice a l.length cap, .string name] w fun e w' => e = .returned (.int .i64 (findR name 0 l)) ∧ Below w.heap.size w w' := by
  have HI : Hid (l = [] ∨ ∃ b off, a = some ⟨b, off, none⟩ ∧ ItemsAt w b off l) := hi
  have HS : Hid (ShortNames l) := hs
  clear hi hs
  generalize hn : l.length = n at *
  have HN : Hid (l.length = n) := hn
  clear hn
  go_enter Tryz.func92, Tryz.ntmps92
  go_wp2_with fail
  go_loopw [5] (fun i wr => ∃ k : Nat, k ≤ n ∧ i = .int .i64 k ∧ findR name 0 l = findR name k (l.drop k) ∧ Below w.heap.size w wr) (fun i _ => n - (intOf i).toNat)
  case atStart => exact ⟨0, Nat.zero_le _, rfl, rfl, Below.refl _ _⟩
  case round =>
    obtain ⟨k, hk, rfl, hf, hb⟩ := hrel
    have HF : Hid (findR name 0 l = findR name k (l.drop k)) := hf
    clear hf
    by_cases hlt : k < n
    · obtain ⟨r, hr⟩ : ∃ r, l[k]? = some r := ⟨l[k]'(by have := HN.out; omega), List.getElem?_eq_getElem _⟩
      rcases HI.out with h | ⟨b, off, rfl, hat⟩
      · subst h; simp at hr
      obtain ⟨p1, _, _⟩ := (hat.keep hb) k r hr
      have hrz := HS.out k r hr
      have HG : Hid (findR name 0 l = if lowS r.name = lowS name then (k : Int) else findR name (k + 1) (l.drop (k + 1))) := by
        show _ = _
        rw [HF.out, drop_rec l k r hr, findR]
      have g : (k : Int) < n := by omega
      clear HF hr hat HI
      generalize r.name = rn at *
      go_wp2_with fail
      refine (l1Lower_any rn _ hrz).mono ?_
      rintro e w2 ⟨rfl, hb2⟩
      go_wp2_with fail
      refine (l1Lower_any name _ hnm).mono ?_
      rintro e w3 ⟨rfl, hb3⟩
      have hbb : Below w.heap.size w w3 := hb.trans ((hb2.mono hb.size).trans (hb3.mono (Nat.le_trans hb.size hb2.size)))
      clear hb hb2 hb3 p1
      by_cases he : lowS rn = lowS name
      · have HE : Hid (findR name 0 l = (k : Int)) := by show _ = _; rw [HG.out, if_pos he]
        rw [he]
        clear he HG
        generalize lowS name = q at *
        go_wp2_with fail
        go_ret
        exact ⟨ret_int HE.out.symm, hbb⟩
      · have HE : Hid (findR name 0 l = findR name (k + 1) (l.drop (k + 1))) := by show _ = _; rw [HG.out, if_neg he]
        have hq := str_ne he
        clear he HG
        generalize lowS rn = q1 at *
        generalize lowS name = q2 at *
        go_wp2_with fail
        go_roundw
        case rel => exact ⟨k + 1, by omega, by go_num, HE.out, hbb⟩
        case measure => simp [intOf]; omega
    · have HE : Hid (findR name 0 l = -1) := by
        show _ = _
        rw [HF.out, List.drop_of_length_le (by have := HN.out; omega), findR]
      clear HF
      go_wp2_with fail
      go_ret
      exact ⟨ret_int HE.out.symm, hb⟩
theorem int_room {w w1 : World} (hb : Below (w.heap.size + 1) (w.alloc (.cells #[.int .i64 0, .int .i64 0] 34)) w1) :
    w.heap.size < w1.heap.size ∧ w1.cell? ⟨w.heap.size, 0, none⟩ = some (.int .i64 0) ∧ w1.cell? ⟨w.heap.size, 1, none⟩ = some (.int .i64 0) ∧ w1.frozen? ⟨w.heap.size, 0, none⟩ = false ∧ w1.frozen? ⟨w.heap.size, 1, none⟩ = false ∧ Below w.heap.size w w1 := by
  have hz := hb.size
  simp only [World.size_alloc] at hz
  exact ⟨hz, by rw [hb.cell (p := ⟨w.heap.size, 0, none⟩) (Nat.lt_succ_self _)]; simp, by rw [hb.cell (p := ⟨w.heap.size, 1, none⟩) (Nat.lt_succ_self _)]; simp, by rw [hb.frozen (p := ⟨w.heap.size, 0, none⟩) (Nat.lt_succ_self _)]; simp, by rw [hb.frozen (p := ⟨w.heap.size, 1, none⟩) (Nat.lt_succ_self _)]; simp, ((Below.refl _ _).alloc (Nat.le_refl _) _).trans (hb.mono (Nat.le_succ _))⟩
def findC (l : List Rec) (name : ByteArray) : Int := if 20 < l.length then 2 else if wordS name = true then (if findR name 0 l < 0 then 4 else 0) else 5
def findV (l : List Rec) (name : ByteArray) : Int := if findC l name = 0 then findR name 0 l else 0
end Go.Proofs.YtgfbahjpaaanoaaGreatDoor
/-
  Plain mathematics of the calendar: no Go in sight.
-/
namespace Go.Proofs.YtgfbahjpaaanoaaGreatDoor
def leap (y : Int) : Bool := decide (y % 4 = 0) && (!decide (y % 100 = 0) || decide (y % 400 = 0))
def mlen (y m : Int) : Int := if m = 4 ∨ m = 6 ∨ m = 9 ∨ m = 11 then 30 else if m = 2 then (if leap y = true then 29 else 28) else 31
def ylen (y : Int) : Int := if leap y = true then 366 else 365
/-- The days ahead of a year. -/
def ahead (y : Int) : Int := 365 * (y - 1970) + ((y - 1) / 4 - (y - 1) / 100 + (y - 1) / 400) - 477
theorem ahead_first : ahead 1970 = 0 := by decide
theorem ahead_end : ahead 10000 = 2932897 := by decide
theorem leap_yes {y : Int} (h : leap y = true) : y % 4 = 0 ∧ (y % 100 ≠ 0 ∨ y % 400 = 0) := by
  simpa [leap] using h
theorem leap_no {y : Int} (h : leap y = false) : ¬ (y % 4 = 0 ∧ (y % 100 ≠ 0 ∨ y % 400 = 0)) := by
  intro h2
  have : leap y = true := by simpa [leap] using h2
  rw [h] at this; cases this
theorem ahead_succ (y : Int) : ahead (y + 1) = ahead y + ylen y := by
  unfold ahead ylen
  cases h : leap y
  · have := leap_no h
    simp only [Bool.false_eq_true, if_false]
    omega
  · have := leap_yes h
    simp only [if_true]
    omega
theorem ylen_bd (y : Int) : 365 ≤ ylen y ∧ ylen y ≤ 366 := by unfold ylen; split <;> omega
theorem ahead_mono {a b : Int} (h : a ≤ b) : ahead a ≤ ahead b := by
  unfold ahead
  by_cases e : a = b
  · subst e; omega
  · omega
theorem ahead_bd {y : Int} (h0 : 1970 ≤ y) (h1 : y ≤ 10000) : 0 ≤ ahead y ∧ ahead y ≤ 2932897 := by
  have := ahead_mono h0
  have := ahead_mono h1
  rw [ahead_first] at *
  rw [ahead_end] at *
  omega
theorem ahead_uniq {a b D : Int} (h1 : ahead a ≤ D) (h2 : D < ahead (a + 1)) (h3 : ahead b ≤ D) (h4 : D < ahead (b + 1)) : a = b := by
  rcases Int.lt_trichotomy a b with h | h | h
  · have := ahead_mono (a := a + 1) (b := b) (by omega); omega
  · exact h
  · have := ahead_mono (a := b + 1) (b := a) (by omega); omega
/-- What the year would be if all years were leap years is not too late. -/
theorem ahead_guess {D : Int} (h : 0 ≤ D) : ahead (1970 + D / 366) ≤ D := by
  unfold ahead
  omega
theorem mlen_bd (y m : Int) : 28 ≤ mlen y m ∧ mlen y m ≤ 31 := by
  unfold mlen; split
  · omega
  · split
    · split <;> omega
    · omega
/-- The days of a year ahead of a month. -/
def msum (y m : Int) : Int :=
  if m ≤ 1 then 0 else if m = 2 then 31 else
  (if leap y = true then 1 else 0) + (if m = 3 then 59 else if m = 4 then 90 else if m = 5 then 120 else if m = 6 then 151 else if m = 7 then 181 else if m = 8 then 212 else if m = 9 then 243 else if m = 10 then 273 else if m = 11 then 304 else if m = 12 then 334 else 365)
theorem months {m : Int} (h1 : 1 ≤ m) (h2 : m ≤ 12) : m = 1 ∨ m = 2 ∨ m = 3 ∨ m = 4 ∨ m = 5 ∨ m = 6 ∨ m = 7 ∨ m = 8 ∨ m = 9 ∨ m = 10 ∨ m = 11 ∨ m = 12 := by omega
theorem msum_succ (y : Int) {m : Int} (h1 : 1 ≤ m) (h2 : m ≤ 12) : msum y (m + 1) = msum y m + mlen y m := by
  rcases months h1 h2 with rfl | rfl | rfl | rfl | rfl | rfl | rfl | rfl | rfl | rfl | rfl | rfl <;> cases h : leap y <;> simp [msum, mlen, h]
theorem msum_first (y : Int) : msum y 1 = 0 := by simp [msum]
theorem msum_end (y : Int) : msum y 13 = ylen y := by cases h : leap y <;> simp [msum, ylen, h]
theorem msum_mono1 (y : Int) {m : Int} (n : Nat) (h1 : 1 ≤ m) (h2 : m + n ≤ 13) : msum y m ≤ msum y (m + n) := by
  induction n with
  | zero => simp
  | succ n ih =>
    have h := ih (by omega)
    have := msum_succ y (m := m + n) (by omega) (by omega)
    have := mlen_bd y (m + n)
    have e : m + ((n + 1 : Nat) : Int) = m + n + 1 := by omega
    rw [e]; omega
theorem msum_mono (y : Int) {a b : Int} (h1 : 1 ≤ a) (h : a ≤ b) (h2 : b ≤ 13) : msum y a ≤ msum y b := by
  have := msum_mono1 y (m := a) (b - a).toNat h1 (by omega)
  have e : a + ((b - a).toNat : Int) = b := by omega
  rwa [e] at this
theorem msum_uniq {y a b D : Int} (ha : 1 ≤ a) (ha2 : a ≤ 12) (hb : 1 ≤ b) (hb2 : b ≤ 12) (h1 : msum y a ≤ D) (h2 : D < msum y a + mlen y a) (h3 : msum y b ≤ D) (h4 : D < msum y b + mlen y b) : a = b := by
  rw [← msum_succ y ha ha2] at h2
  rw [← msum_succ y hb hb2] at h4
  rcases Int.lt_trichotomy a b with h | h | h
  · have := msum_mono y (a := a + 1) (b := b) (by omega) (by omega) (by omega); omega
  · exact h
  · have := msum_mono y (a := b + 1) (b := a) (by omega) (by omega) (by omega); omega
def dayB (y m d : Int) : Bool := decide (1970 ≤ y) && decide (y ≤ 9999) && decide (1 ≤ m) && decide (m ≤ 12) && decide (1 ≤ d) && decide (d ≤ mlen y m)
structure DayOk (y m d : Int) : Prop where
  y0 : 1970 ≤ y
  y1 : y ≤ 9999
  m0 : 1 ≤ m
  m1 : m ≤ 12
  d0 : 1 ≤ d
  d1 : d ≤ mlen y m
theorem dayB_yes {y m d : Int} (h : dayB y m d = true) : DayOk y m d := by
  simp only [dayB, Bool.and_eq_true, decide_eq_true_eq] at h
  obtain ⟨⟨⟨⟨⟨a, b⟩, c⟩, d⟩, e⟩, f⟩ := h
  exact ⟨a, b, c, d, e, f⟩
theorem dayB_of {y m d : Int} (h : DayOk y m d) : dayB y m d = true := by
  obtain ⟨a, b, c, d, e, f⟩ := h
  simp only [dayB, Bool.and_eq_true, decide_eq_true_eq]
  exact ⟨⟨⟨⟨⟨a, b⟩, c⟩, d⟩, e⟩, f⟩
theorem dayB_no {y m d : Int} (h : dayB y m d = false) : ¬ DayOk y m d := fun k => by rw [dayB_of k] at h; cases h
/-- Days since the first of January 1970. -/
def daysD (y m d : Int) : Int := ahead y + msum y m + d - 1
theorem msum_day {y m d : Int} (h : DayOk y m d) : 0 ≤ msum y m ∧ msum y m + d - 1 < ylen y := by
  have h1 := msum_mono y (a := 1) (b := m) (by omega) h.m0 (by have := h.m1; omega)
  have h2 := msum_mono y (a := m + 1) (b := 13) (by have := h.m0; omega) (by have := h.m1; omega) (by omega)
  rw [msum_succ y h.m0 h.m1, msum_end] at h2
  rw [msum_first] at h1
  have := h.d1
  omega
theorem daysD_bd {y m d : Int} (h : DayOk y m d) : 0 ≤ daysD y m d ∧ daysD y m d ≤ 2932896 := by
  have h1 := msum_day h
  have h2 := ahead_bd h.y0 (by have := h.y1; omega)
  have h3 := ahead_mono (a := y + 1) (b := 10000) (by have := h.y1; omega)
  rw [ahead_succ, ahead_end] at h3
  have := h.d0
  unfold daysD; omega
theorem daysD_inj {y m d y' m' d' : Int} (h : DayOk y m d) (h' : DayOk y' m' d') (e : daysD y m d = daysD y' m' d') : y = y' ∧ m = m' ∧ d = d' := by
  have a := msum_day h
  have a' := msum_day h'
  have b := h.d0
  have b' := h'.d0
  unfold daysD at e
  obtain rfl : y = y' := by
    refine ahead_uniq (D := ahead y + msum y m + d - 1) (by omega) ?_ (by omega) ?_
    · rw [ahead_succ]; omega
    · rw [ahead_succ]; omega
  have c := h.d1
  have c' := h'.d1
  obtain rfl : m = m' := by
    refine msum_uniq (y := y) (D := msum y m + d - 1) h.m0 h.m1 h'.m0 h'.m1 (by omega) (by omega) (by omega) (by omega)
  exact ⟨rfl, rfl, by omega⟩
structure DateOk (y m d h i s : Int) : Prop where
  day : DayOk y m d
  h0 : 0 ≤ h
  h1 : h ≤ 23
  i0 : 0 ≤ i
  i1 : i ≤ 59
  s0 : 0 ≤ s
  s1 : s ≤ 59
def dateB (y m d h i s : Int) : Bool := dayB y m d && (decide (0 ≤ h) && decide (h ≤ 23) && decide (0 ≤ i) && decide (i ≤ 59) && decide (0 ≤ s) && decide (s ≤ 59))
theorem dateB_yes {y m d h i s : Int} (k : dateB y m d h i s = true) : DateOk y m d h i s := by
  simp only [dateB, Bool.and_eq_true, decide_eq_true_eq] at k
  obtain ⟨k, ⟨⟨⟨⟨a, b⟩, c⟩, d⟩, e⟩, f⟩ := k
  exact ⟨dayB_yes k, a, b, c, d, e, f⟩
theorem dateB_of {y m d h i s : Int} (k : DateOk y m d h i s) : dateB y m d h i s = true := by
  obtain ⟨k, a, b, c, d, e, f⟩ := k
  simp only [dateB, Bool.and_eq_true, decide_eq_true_eq]
  exact ⟨dayB_of k, ⟨⟨⟨⟨a, b⟩, c⟩, d⟩, e⟩, f⟩
def secsD (y m d h i s : Int) : Int := daysD y m d * 86400 + h * 3600 + i * 60 + s
theorem secsD_bd {y m d h i s : Int} (k : DateOk y m d h i s) : 0 ≤ secsD y m d h i s ∧ secsD y m d h i s ≤ 253402300799 := by
  have := daysD_bd k.day
  obtain ⟨_, a, b, c, d, e, f⟩ := k
  unfold secsD; omega
theorem secsD_inj {y m d h i s y' m' d' h' i' s' : Int} (k : DateOk y m d h i s) (k' : DateOk y' m' d' h' i' s') (e : secsD y m d h i s = secsD y' m' d' h' i' s') :
    y = y' ∧ m = m' ∧ d = d' ∧ h = h' ∧ i = i' ∧ s = s' := by
  obtain ⟨kd, a, b, c, q, e1, f⟩ := k
  obtain ⟨kd', a', b', c', q', e2, f'⟩ := k'
  unfold secsD at e
  have ed : daysD y m d = daysD y' m' d' := by omega
  obtain ⟨e1, e2, e3⟩ := daysD_inj kd kd' ed
  exact ⟨e1, e2, e3, by omega, by omega, by omega⟩
/-- The date of seconds, out of its year and month. -/
theorem date_at {n y m : Int} (h0 : 0 ≤ n) (h1 : n ≤ 253402300799) (hy0 : 1970 ≤ y) (a1 : ahead y ≤ n / 86400) (hm0 : 1 ≤ m) (hm1 : m ≤ 12)
    (b1 : msum y m ≤ n / 86400 - ahead y) (b2 : n / 86400 - ahead y < msum y m + mlen y m) :
    DateOk y m (n / 86400 - ahead y - msum y m + 1) (n % 86400 / 3600) (n % 86400 / 60 % 60) (n % 86400 % 60) ∧ secsD y m (n / 86400 - ahead y - msum y m + 1) (n % 86400 / 3600) (n % 86400 / 60 % 60) (n % 86400 % 60) = n := by
  have hy1 : y ≤ 9999 := by
    rcases Int.lt_or_le 9999 y with h | h
    · have := ahead_mono (a := 10000) (b := y) (by omega)
      rw [ahead_end] at this; omega
    · exact h
  refine ⟨⟨⟨hy0, hy1, hm0, hm1, by omega, by omega⟩, by omega, by omega, by omega, by omega, by omega, by omega⟩, ?_⟩
  unfold secsD daysD
  omega
/-- From one day to the next. -/
theorem next_month {y m d : Int} (h : DayOk y m d) (hd : ¬ DayOk y m (d + 1)) (hm : m < 12) : DayOk y (m + 1) 1 ∧ daysD y (m + 1) 1 = daysD y m d + 1 := by
  have hdm : d = mlen y m := by
    rcases Int.lt_or_le d (mlen y m) with k | k
    · exact absurd ⟨h.y0, h.y1, h.m0, h.m1, by have := h.d0; omega, by omega⟩ hd
    · have := h.d1; omega
  refine ⟨⟨h.y0, h.y1, by have := h.m0; omega, by omega, by omega, by have := mlen_bd y (m + 1); omega⟩, ?_⟩
  unfold daysD
  rw [msum_succ y h.m0 (by omega)]
  omega
theorem next_year {y m d : Int} (h : DayOk y m d) (hd : ¬ DayOk y m (d + 1)) (hm : m = 12) : d = 31 ∧ daysD (y + 1) 1 1 = daysD y m d + 1 := by
  subst hm
  have hdm : d = mlen y 12 := by
    rcases Int.lt_or_le d (mlen y 12) with k | k
    · exact absurd ⟨h.y0, h.y1, h.m0, h.m1, by have := h.d0; omega, by omega⟩ hd
    · have := h.d1; omega
  have e : mlen y 12 = 31 := by simp [mlen]
  have e2 := msum_succ y (m := 12) (by omega) (by omega)
  have e3 := msum_end y
  have e4 : (12 : Int) + 1 = 13 := rfl
  rw [e4] at e2
  refine ⟨by omega, ?_⟩
  unfold daysD
  rw [ahead_succ, msum_first]
  omega
end Go.Proofs.YtgfbahjpaaanoaaGreatDoor
/-
  Plain: every number of seconds has its one date.
-/
namespace Go.Proofs.YtgfbahjpaaanoaaGreatDoor
theorem year_ex (D : Nat) : ∃ y : Int, 1970 ≤ y ∧ ahead y ≤ D ∧ (D : Int) < ahead (y + 1) := by
  induction D with
  | zero => exact ⟨1970, by omega, by decide, by decide⟩
  | succ D ih =>
    obtain ⟨y, h0, h1, h2⟩ := ih
    by_cases h : ((D + 1 : Nat) : Int) < ahead (y + 1)
    · exact ⟨y, h0, by omega, h⟩
    · refine ⟨y + 1, by omega, by omega, ?_⟩
      rw [ahead_succ]
      have := ylen_bd (y + 1)
      omega
theorem month_ex (y : Int) (r : Nat) : ((r : Int) < ylen y) → ∃ m : Int, 1 ≤ m ∧ m ≤ 12 ∧ msum y m ≤ r ∧ (r : Int) < msum y m + mlen y m := by
  induction r with
  | zero => intro _; exact ⟨1, by omega, by omega, by rw [msum_first]; simp, by rw [msum_first]; have := mlen_bd y 1; omega⟩
  | succ r ih =>
    intro hr
    obtain ⟨m, h0, h1, h2, h3⟩ := ih (by omega)
    by_cases h : ((r + 1 : Nat) : Int) < msum y m + mlen y m
    · exact ⟨m, h0, h1, by omega, h⟩
    · have e := msum_succ y h0 h1
      have hm : m < 12 := by
        rcases Int.lt_or_le m 12 with k | k
        · exact k
        · obtain rfl : m = 12 := by omega
          have := msum_end y
          have e4 : (12 : Int) + 1 = 13 := rfl
          rw [e4] at e
          omega
      refine ⟨m + 1, by omega, by omega, by omega, ?_⟩
      have := mlen_bd y (m + 1)
      omega
/-- A date of seconds. -/
structure IsDate (n : Int) (t : Int × Int × Int × Int × Int × Int) : Prop where
  ok : DateOk t.1 t.2.1 t.2.2.1 t.2.2.2.1 t.2.2.2.2.1 t.2.2.2.2.2
  eq : secsD t.1 t.2.1 t.2.2.1 t.2.2.2.1 t.2.2.2.2.1 t.2.2.2.2.2 = n
theorem isDate_ex {n : Int} (h0 : 0 ≤ n) (h1 : n ≤ 253402300799) : ∃ t, IsDate n t := by
  obtain ⟨y, hy0, hy1, hy2⟩ := year_ex (n / 86400).toNat
  have e : ((n / 86400).toNat : Int) = n / 86400 := by omega
  rw [e] at hy1 hy2
  rw [ahead_succ] at hy2
  obtain ⟨m, hm0, hm1, hm2, hm3⟩ := month_ex y (n / 86400 - ahead y).toNat (by omega)
  have e : ((n / 86400 - ahead y).toNat : Int) = n / 86400 - ahead y := by omega
  rw [e] at hm2 hm3
  have := date_at h0 h1 hy0 hy1 hm0 hm1 hm2 hm3
  exact ⟨(_, _, _, _, _, _), this.1, this.2⟩
open Classical in
noncomputable def dateT (n : Int) : Int × Int × Int × Int × Int × Int := if h : ∃ t, IsDate n t then h.choose else (0, 0, 0, 0, 0, 0)
noncomputable def dY (n : Int) : Int := (dateT n).1
noncomputable def dM (n : Int) : Int := (dateT n).2.1
noncomputable def dD (n : Int) : Int := (dateT n).2.2.1
noncomputable def dH (n : Int) : Int := (dateT n).2.2.2.1
noncomputable def dI (n : Int) : Int := (dateT n).2.2.2.2.1
noncomputable def dS (n : Int) : Int := (dateT n).2.2.2.2.2
theorem dateT_of {n : Int} (h : ∃ t, IsDate n t) : IsDate n (dateT n) := by
  unfold dateT
  rw [dif_pos h]
  exact h.choose_spec
theorem date_ok {n : Int} (h0 : 0 ≤ n) (h1 : n ≤ 253402300799) : DateOk (dY n) (dM n) (dD n) (dH n) (dI n) (dS n) := (dateT_of (isDate_ex h0 h1)).ok
theorem date_secs {n : Int} (h0 : 0 ≤ n) (h1 : n ≤ 253402300799) : secsD (dY n) (dM n) (dD n) (dH n) (dI n) (dS n) = n := (dateT_of (isDate_ex h0 h1)).eq
theorem date_is {n y m d h i s : Int} (k : DateOk y m d h i s) (e : secsD y m d h i s = n) : y = dY n ∧ m = dM n ∧ d = dD n ∧ h = dH n ∧ i = dI n ∧ s = dS n := by
  have b := secsD_bd k
  rw [e] at b
  exact secsD_inj k (date_ok b.1 b.2) (by rw [e, date_secs b.1 b.2])
end Go.Proofs.YtgfbahjpaaanoaaGreatDoor
/-
  Plain: the text of a date.
-/
namespace Go.Proofs.YtgfbahjpaaanoaaGreatDoor
def dayNames : ByteArray := ⟨#[83, 117, 110, 77, 111, 110, 84, 117, 101, 87, 101, 100, 84, 104, 117, 70, 114, 105, 83, 97, 116]⟩
def monNames : ByteArray := ⟨#[74, 97, 110, 70, 101, 98, 77, 97, 114, 65, 112, 114, 77, 97, 121, 74, 117, 110, 74, 117, 108, 65, 117, 103, 83, 101, 112, 79, 99, 116, 78, 111, 118, 68, 101, 99]⟩
def wdT (x : Int) : ByteArray := dayNames.extract (3 * x).toNat (3 * x + 3).toNat
def moT (m : Int) : ByteArray := monNames.extract (3 * m - 3).toNat (3 * m).toNat
def dg (x : Int) : UInt8 := UInt8.ofNat (48 + x.toNat)
def two (n : Int) : ByteArray := ⟨#[dg (n / 10 % 10), dg (n % 10)]⟩
theorem wdT_size {x : Int} (h0 : 0 ≤ x) (h1 : x < 7) : (wdT x).size = 3 := by
  have e : dayNames.size = 21 := rfl
  unfold wdT
  rw [ByteArray.size_extract, e]
  omega
theorem moT_size {m : Int} (h0 : 1 ≤ m) (h1 : m ≤ 12) : (moT m).size = 3 := by
  have e : monNames.size = 36 := rfl
  unfold moT
  rw [ByteArray.size_extract, e]
  omega
theorem two_size (n : Int) : (two n).size = 2 := rfl
/-- The text of a date. -/
def dateText (x y m d h i s : Int) : ByteArray :=
  wdT x ++ ⟨#[44, 32]⟩ ++ two d ++ ⟨#[32]⟩ ++ moT m ++ ⟨#[32]⟩ ++ two (y / 100) ++ two y ++ ⟨#[32]⟩ ++ two h ++ ⟨#[58]⟩ ++ two i ++ ⟨#[58]⟩ ++ two s ++ ⟨#[32, 71, 77, 84]⟩
noncomputable def fmtT (n : Int) : ByteArray := dateText ((n / 86400 + 4) % 7) (dY n) (dM n) (dD n) (dH n) (dI n) (dS n)
def numTx (n : Int) : ByteArray := ⟨(Lib.itoa n).toArray⟩
theorem dec_one (u : Nat) (h : u < 10) : Lib.decDigits u = [UInt8.ofNat (48 + u)] := Lib.decDigits_one h
theorem dec_more (u : Nat) (h : ¬ u < 10) : Lib.decDigits u = Lib.decDigits (u / 10) ++ [UInt8.ofNat (48 + u % 10)] := by rw [Lib.decDigits, dif_neg h]
theorem num_one {n : Int} (h0 : 0 ≤ n) (h1 : n < 10) : (⟨#[48]⟩ : ByteArray) ++ numTx n = two n := by
  obtain ⟨u, rfl⟩ := Int.eq_ofNat_of_zero_le h0
  have e1 : ((u : Int) / 10 % 10).toNat = 0 := by omega
  have e2 : ((u : Int) % 10).toNat = u := by omega
  unfold numTx two dg
  rw [Lib.itoa_nonneg, dec_one u (by omega), e1, e2]
  apply ByteArray.ext
  simp
theorem num_two {n : Int} (h0 : 10 ≤ n) (h1 : n < 100) : numTx n = two n := by
  obtain ⟨u, rfl⟩ := Int.eq_ofNat_of_zero_le (show 0 ≤ n by omega)
  have e1 : ((u : Int) / 10 % 10).toNat = u / 10 := by omega
  have e2 : ((u : Int) % 10).toNat = u % 10 := by omega
  unfold numTx two dg
  rw [Lib.itoa_nonneg, dec_more u (by omega), dec_one (u / 10) (by omega), e1, e2]
  rfl
theorem num_year {n : Int} (h0 : 1000 ≤ n) (h1 : n < 10000) : numTx n = two (n / 100) ++ two n := by
  obtain ⟨u, rfl⟩ := Int.eq_ofNat_of_zero_le (show 0 ≤ n by omega)
  have e1 : ((u : Int) / 100 / 10 % 10).toNat = u / 10 / 10 / 10 := by omega
  have e2 : ((u : Int) / 100 % 10).toNat = u / 10 / 10 % 10 := by omega
  have e3 : ((u : Int) / 10 % 10).toNat = u / 10 % 10 := by omega
  have e4 : ((u : Int) % 10).toNat = u % 10 := by omega
  unfold numTx two dg
  rw [Lib.itoa_nonneg, dec_more u (by omega), dec_more (u / 10) (by omega), dec_more (u / 10 / 10) (by omega), dec_one (u / 10 / 10 / 10) (by omega), e1, e2, e3, e4]
  apply ByteArray.ext
  simp
theorem numTx_size {n : Int} (h0 : 0 ≤ n) (h1 : n < 10000) : (numTx n).size ≤ 4 := by
  by_cases c : n < 10
  · have := congrArg ByteArray.size (num_one h0 c)
    rw [ByteArray.size_append, two_size] at this
    omega
  by_cases c2 : n < 100
  · rw [num_two (by omega) c2, two_size]; omega
  by_cases c3 : n < 1000
  · obtain ⟨u, rfl⟩ := Int.eq_ofNat_of_zero_le h0
    unfold numTx
    rw [Lib.itoa_nonneg, dec_more u (by omega), dec_more (u / 10) (by omega), dec_one (u / 10 / 10) (by omega)]
    show (3 : Nat) ≤ 4
    omega
  · rw [num_year (by omega) h1, ByteArray.size_append, two_size, two_size]; omega
end Go.Proofs.YtgfbahjpaaanoaaGreatDoor
/-
  Plain mathematics of decimal digits that stay at their greatest: no Go in sight.
-/
namespace Go.Proofs.YtgfbahjpaaanoaaGreatDoor
def digB (c : UInt8) : Bool := decide (48 ≤ (c.toNat : Int)) && decide ((c.toNat : Int) ≤ 57)
def accD (n : Int) (c : UInt8) : Int := if n * 10 + ((c.toNat : Int) - 48) < 2147483648 then n * 10 + ((c.toNat : Int) - 48) else 2147483648
def valD (l : List UInt8) : Int := l.foldl accD 0
def allD (l : List UInt8) : Bool := l.all digB
theorem accD_bd (n : Int) (c : UInt8) (h0 : 0 ≤ n) (hc : digB c = true) : 0 ≤ accD n c ∧ accD n c ≤ 2147483648 := by
  simp [digB] at hc
  unfold accD
  split <;> omega
theorem foldD_bd (l : List UInt8) : ∀ n : Int, 0 ≤ n → n ≤ 2147483648 → l.all digB = true → 0 ≤ l.foldl accD n ∧ l.foldl accD n ≤ 2147483648 := by
  induction l with
  | nil => intro n h0 h1 _; exact ⟨h0, h1⟩
  | cons c l ih =>
    intro n h0 h1 h
    simp only [List.all_cons, Bool.and_eq_true] at h
    have := accD_bd n c h0 h.1
    exact ih _ this.1 this.2 h.2
theorem valD_bd (l : List UInt8) (h : allD l = true) : 0 ≤ valD l ∧ valD l ≤ 2147483648 := foldD_bd l 0 (by omega) (by omega) h
theorem valD_snoc (l : List UInt8) (c : UInt8) : valD (l ++ [c]) = accD (valD l) c := by simp [valD]
theorem allD_snoc (l : List UInt8) (c : UInt8) : allD (l ++ [c]) = (allD l && digB c) := by simp [allD]
theorem allD_of_take (l : List UInt8) (k : Nat) (h : allD (l.take k) = false) : allD l = false := by
  have e := List.take_append_drop k l
  rw [← e]
  simp only [allD] at h ⊢
  rw [List.all_append, h, Bool.false_and]
/-- Digits as a number; -1 where they are none. -/
def okD (s : ByteArray) : Bool := decide (1 ≤ s.size) && decide (s.size ≤ 64) && allD s.data.toList
def numD (s : ByteArray) : Int := if okD s = true then valD s.data.toList else -1
theorem okD_short (s : ByteArray) (h : s.size < 1) : okD s = false := by simp [okD]; omega
theorem okD_long (s : ByteArray) (h : 64 < s.size) : okD s = false := by simp [okD]; omega
theorem okD_not (s : ByteArray) (k : Nat) (h : k < s.size) (hd : digB s[k] = false) : okD s = false := by
  have : allD s.data.toList = false := by
    refine allD_of_take _ (k + 1) ?_
    rw [take_snoc s k h, allD_snoc, hd, Bool.and_false]
  simp [okD, this]
theorem okD_yes (s : ByteArray) (h1 : 1 ≤ s.size) (h2 : s.size ≤ 64) (h : allD s.data.toList = true) : okD s = true := by simp [okD, h, h1, h2]
theorem numD_no (s : ByteArray) (h : okD s = false) : numD s = -1 := by simp [numD, h]
theorem numD_yes (s : ByteArray) (h : okD s = true) : numD s = valD s.data.toList := by simp [numD, h]
theorem okD_bd (s : ByteArray) (h : okD s = true) : 0 ≤ valD s.data.toList ∧ valD s.data.toList ≤ 2147483648 := by
  refine valD_bd _ ?_
  simp [okD] at h
  exact h.2
end Go.Proofs.YtgfbahjpaaanoaaGreatDoor
/-
  Plain: what a date's text is read as.
-/
namespace Go.Proofs.YtgfbahjpaaanoaaGreatDoor
def parS (s : ByteArray) (m : Int) : Int := secsD (numD (s.extract 12 16)) m (numD (s.extract 5 7)) (numD (s.extract 17 19)) (numD (s.extract 20 22)) (numD (s.extract 23 25))
def parB (s : ByteArray) (m : Int) : Bool := dateB (numD (s.extract 12 16)) m (numD (s.extract 5 7)) (numD (s.extract 17 19)) (numD (s.extract 20 22)) (numD (s.extract 23 25))
/-- The text is the text of a date of month m. -/
structure Cand (s : ByteArray) (m : Int) : Prop where
  m0 : 1 ≤ m
  m1 : m ≤ 12
  mon : moT m = s.extract 8 11
  ok : parB s m = true
  same : fmtT (parS s m) = s
theorem moT_inj {a b : Int} (a0 : 1 ≤ a) (a1 : a ≤ 12) (b0 : 1 ≤ b) (b1 : b ≤ 12) (h : moT a = moT b) : a = b := by
  rcases months a0 a1 with rfl | rfl | rfl | rfl | rfl | rfl | rfl | rfl | rfl | rfl | rfl | rfl <;>
  rcases months b0 b1 with rfl | rfl | rfl | rfl | rfl | rfl | rfl | rfl | rfl | rfl | rfl | rfl <;>
  first | rfl | exact absurd h (by decide)
open Classical in
noncomputable def parI (s : ByteArray) : Int := if h : s.size = 29 ∧ ∃ m, Cand s m then parS s h.2.choose else -1
theorem parI_yes {s : ByteArray} {m : Int} (hz : s.size = 29) (h : Cand s m) : parI s = parS s m := by
  have hh : s.size = 29 ∧ ∃ m, Cand s m := ⟨hz, m, h⟩
  unfold parI
  rw [dif_pos hh]
  have hc := hh.2.choose_spec
  rw [moT_inj hc.m0 hc.m1 h.m0 h.m1 (hc.mon.trans h.mon.symm)]
theorem parI_no {s : ByteArray} (h : s.size = 29 → ∀ m, ¬ Cand s m) : parI s = -1 := by
  unfold parI
  rw [dif_neg]
  rintro ⟨hz, m, hm⟩
  exact h hz m hm
theorem Cand.bd {s : ByteArray} {m : Int} (h : Cand s m) : 0 ≤ parS s m ∧ parS s m ≤ 253402300799 := secsD_bd (dateB_yes h.ok)
noncomputable def pdC (s : ByteArray) : Int := if parI s < 0 then 5 else 0
noncomputable def pdV (s : ByteArray) : Int := if parI s < 0 then 0 else parI s
theorem pd_yes {s : ByteArray} {m : Int} (hz : s.size = 29) (h : Cand s m) : pdC s = 0 ∧ pdV s = parS s m := by
  have e := parI_yes hz h
  have b := h.bd
  unfold pdC pdV
  rw [e, if_neg (by omega), if_neg (by omega)]
  exact ⟨rfl, rfl⟩
theorem pd_no {s : ByteArray} (h : s.size = 29 → ∀ m, ¬ Cand s m) : pdC s = 5 ∧ pdV s = 0 := by
  have e := parI_no h
  unfold pdC pdV
  rw [e, if_pos (by omega), if_pos (by omega)]
  exact ⟨rfl, rfl⟩
theorem pd_or (s : ByteArray) : (s.size = 29 ∧ ∃ m, Cand s m) ∨ (s.size = 29 → ∀ m, ¬ Cand s m) := by
  by_cases h : s.size = 29 ∧ ∃ m, Cand s m
  · exact .inl h
  · exact .inr fun hz m hm => h ⟨hz, m, hm⟩
end Go.Proofs.YtgfbahjpaaanoaaGreatDoor
/-
  What heads allow, plainly.
-/
namespace Go.Proofs.YtgfbahjpaaanoaaGreatDoor
def max0 (x : Int) : Int := if x < 0 then 0 else x
def hasR (nm : ByteArray) (L : List Rec) : Bool := decide (0 ≤ findR nm 0 L)
/-- Seconds in a text, in thousandths. -/
def secD (s : ByteArray) : Int := max0 (numD s) * 1000
def secR (nm : ByteArray) (L : List Rec) : Int := if findR nm 0 L < 0 then 0 else match L[(findR nm 0 L).toNat]? with | some r => if r.has = true then secD r.value else 0 | none => 0
theorem findR_lt (nm : ByteArray) : ∀ (L : List Rec) (k : Nat), findR nm k L < ((k + L.length : Nat) : Int)
  | [], k => by simp [findR]; omega
  | r :: L, k => by
    rw [findR]
    split
    · simp only [List.length_cons]; omega
    · have := findR_lt nm L (k + 1)
      simp only [List.length_cons]
      omega
theorem numD_hi (s : ByteArray) : numD s ≤ 2147483648 := by
  cases h : okD s
  · rw [numD_no s h]; omega
  · rw [numD_yes s h]; exact (okD_bd s h).2
theorem max0_bd {x : Int} {m : Int} (h : x ≤ m) (hm : 0 ≤ m) : 0 ≤ max0 x ∧ max0 x ≤ m := by
  unfold max0
  split <;> omega
theorem secR_none {nm : ByteArray} {L : List Rec} (h : findR nm 0 L < 0) : secR nm L = 0 := by rw [secR, if_pos h]
theorem secR_at {nm : ByteArray} {L : List Rec} {k : Nat} {r : Rec} (h : findR nm 0 L = (k : Int)) (hr : L[k]? = some r) : secR nm L = if r.has = true then secD r.value else 0 := by
  rw [secR, if_neg (by omega), h, Int.toNat_natCast, hr]
theorem parI_bd (s : ByteArray) : -1 ≤ parI s ∧ parI s ≤ 253402300799 := by
  unfold parI
  split
  · rename_i h
    have := h.2.choose_spec.bd
    omega
  · omega
def expN : ByteArray := ⟨#[101, 120, 112, 105, 114, 101, 115]⟩
def datN : ByteArray := ⟨#[100, 97, 116, 101]⟩
def ageN : ByteArray := ⟨#[97, 103, 101]⟩
def ccN : ByteArray := ⟨#[99, 97, 99, 104, 101, 45, 99, 111, 110, 116, 114, 111, 108]⟩
theorem expS_low : lowS ⟨#[101, 120, 112, 105, 114, 101, 115]⟩ = expN := by decide +kernel
theorem datS_low : lowS ⟨#[100, 97, 116, 101]⟩ = datN := by decide +kernel
theorem ageS_low : lowS ⟨#[97, 103, 101]⟩ = ageN := by decide +kernel
theorem ccS_low : lowS ⟨#[99, 97, 99, 104, 101, 45, 99, 111, 110, 116, 114, 111, 108]⟩ = ccN := by decide +kernel
theorem expI_low : lowS ⟨#[69, 120, 112, 105, 114, 101, 115]⟩ = expN := by decide +kernel
theorem datI_low : lowS ⟨#[68, 97, 116, 101]⟩ = datN := by decide +kernel
theorem ageI_low : lowS ⟨#[65, 103, 101]⟩ = ageN := by decide +kernel
theorem ccI_low : lowS ⟨#[67, 97, 99, 104, 101, 45, 67, 111, 110, 116, 114, 111, 108]⟩ = ccN := by decide +kernel
theorem ccI_word : wordS ⟨#[67, 97, 99, 104, 101, 45, 67, 111, 110, 116, 114, 111, 108]⟩ = true := by decide +kernel
def kNoStore : ByteArray := ⟨#[110, 111, 45, 115, 116, 111, 114, 101]⟩
def kPrivate : ByteArray := ⟨#[112, 114, 105, 118, 97, 116, 101]⟩
def kNoCache : ByteArray := ⟨#[110, 111, 45, 99, 97, 99, 104, 101]⟩
def kMust : ByteArray := ⟨#[109, 117, 115, 116, 45, 114, 101, 118, 97, 108, 105, 100, 97, 116, 101]⟩
def kProxy : ByteArray := ⟨#[112, 114, 111, 120, 121, 45, 114, 101, 118, 97, 108, 105, 100, 97, 116, 101]⟩
def kSMax : ByteArray := ⟨#[115, 45, 109, 97, 120, 97, 103, 101]⟩
def kMax : ByteArray := ⟨#[109, 97, 120, 45, 97, 103, 101]⟩
def kSwr : ByteArray := ⟨#[115, 116, 97, 108, 101, 45, 119, 104, 105, 108, 101, 45, 114, 101, 118, 97, 108, 105, 100, 97, 116, 101]⟩
def kSie : ByteArray := ⟨#[115, 116, 97, 108, 101, 45, 105, 102, 45, 101, 114, 114, 111, 114]⟩
/-- What Expires and Date tell. -/
noncomputable def expX (eb db : Bool) (e d : Int) : Int := if eb = false then -1 else if db = false ∨ e < 0 ∨ d < 0 then 0 else max0 (e - d) * 1000
noncomputable def expD (l : List Hdr) : Int := expX (firstB expN l) (firstB datN l) (parI (firstV expN l)) (parI (firstV datN l))
def ageD (l : List Hdr) : Int := if firstB ageN l = true then secD (firstV ageN l) else 0
structure Pol where
  b0 : Bool
  b1 : Bool
  b2 : Bool
  l : Int
  s : Int
  e : Int
  g : Int
def mustR (L : List Rec) : Bool := hasR kMust L || hasR kProxy L || hasR kSMax L
def lifeR (L : List Rec) (x : Int) : Int := if hasR kSMax L = true then secR kSMax L else if hasR kMax L = true then secR kMax L else x
noncomputable def polOf (l : List Hdr) : Pol :=
  if parseC (underT ccN l) = 0 then
    ⟨hasR kNoStore (parseL (underT ccN l)) || hasR kPrivate (parseL (underT ccN l)), hasR kNoCache (parseL (underT ccN l)), mustR (parseL (underT ccN l)), lifeR (parseL (underT ccN l)) (expD l), if mustR (parseL (underT ccN l)) = true then 0 else secR kSwr (parseL (underT ccN l)), if mustR (parseL (underT ccN l)) = true then 0 else secR kSie (parseL (underT ccN l)), ageD l⟩
  else ⟨true, false, false, 0, 0, 0, ageD l⟩
end Go.Proofs.YtgfbahjpaaanoaaGreatDoor
/-
  What the model's l1Delta answers.
-/
namespace Go.Proofs.YtgfbahjpaaanoaaGreatDoor
open Go.ChangeShapes Go.WideShapes Go.ChangeAt Go.RowKit
set_option maxHeartbeats 400000 in
theorem l1Delta_size (s : ByteArray) (w : World) (h : s.size < 1 ∨ 64 < s.size) :
    Calls Tryz.prog 67 #[.string s] w fun e w' => e = .returned (.int .i64 (numD s)) ∧ w' = w := by
  rcases h with h | h
  · rw [numD_no s (okD_short s h)]
    have hh : (s.size : Int) < 1 := by omega
    go_enter Tryz.func67, Tryz.ntmps67
    go_wp2
    go_ret
    exact ⟨rfl, rfl⟩
  · rw [numD_no s (okD_long s h)]
    have hh : (64 : Int) < s.size := by omega
    have h1 : ¬ (s.size : Int) < 1 := by omega
    go_enter Tryz.func67, Tryz.ntmps67
    go_wp2
    go_ret
    exact ⟨rfl, rfl⟩
set_option maxHeartbeats 1000000 in
theorem l1Delta_any (s : ByteArray) (w : World) (h1 : 1 ≤ s.size) (h2 : s.size ≤ 64) :
    Calls Tryz.prog 67 #[.string s] w fun e w' => e = .returned (.int .i64 (numD s)) ∧ w' = w := by
  have g1 : ¬ (s.size : Int) < 1 := by omega
  have g2 : ¬ (64 : Int) < s.size := by omega
  go_enter Tryz.func67, Tryz.ntmps67
  go_wp2
  go_loop [3, 4] (fun n i => ∃ k : Nat, k ≤ s.size ∧ i = .int .i64 k ∧ allD (s.data.toList.take k) = true ∧ n = .int .i64 (valD (s.data.toList.take k))) (fun _ i => s.size - (intOf i).toNat)
  case atStart => exact ⟨0, Nat.zero_le _, rfl, rfl, rfl⟩
  case round =>
    obtain ⟨k, hk, rfl, hall, rfl⟩ := hrel
    have hd := valD_bd _ hall
    by_cases hlt : k < s.size
    · by_cases hdig : digB s[k] = true
      · have hb : 48 ≤ (s[k].toNat : Int) ∧ (s[k].toNat : Int) ≤ 57 := by simpa [digB] using hdig
        obtain ⟨hb1, hb2⟩ := hb
        have HS : Hid (valD (s.data.toList.take (k + 1)) = accD (valD (s.data.toList.take k)) s[k]) := by
          show _ = _
          rw [take_snoc s k hlt, valD_snoc]
        have HA : Hid (allD (s.data.toList.take (k + 1)) = true) := by
          show _ = _
          rw [take_snoc s k hlt, allD_snoc, hall, hdig]; rfl
        have d2 : decide ((s[k].toNat : Int) ≤ 57) = true := by simpa using hb2
        clear hdig hall
        generalize hv : valD (s.data.toList.take k) = n at *
        clear hv
        by_cases hm : n * 10 + ((s[k].toNat : Int) - 48) < 2147483648
        · have HE : Hid (valD (s.data.toList.take (k + 1)) = n * 10 + ((s[k].toNat : Int) - 48)) := by
            show _ = _
            rw [HS.out, accD, if_pos hm]
          go_wp2
          go_round
          case rel => exact ⟨k + 1, by omega, by go_num, HA.out, by rw [HE.out]; rfl⟩
          case measure => simp [intOf]; omega
        · have HE : Hid (valD (s.data.toList.take (k + 1)) = 2147483648) := by
            show _ = _
            rw [HS.out, accD, if_neg hm]
          go_wp2
          go_round
          case rel => exact ⟨k + 1, by omega, by go_num, HA.out, by rw [HE.out]; rfl⟩
          case measure => simp [intOf]; omega
      · have hf : digB s[k] = false := by simpa using hdig
        have HN : Hid (numD s = -1) := numD_no s (okD_not s k hlt hf)
        have hb : ¬ (48 ≤ (s[k].toNat : Int) ∧ (s[k].toNat : Int) ≤ 57) := by simpa [digB] using hdig
        clear hdig hf
        by_cases hb1 : 48 ≤ (s[k].toNat : Int)
        · have hb2 : 57 < (s[k].toNat : Int) := by omega
          have d2 : decide ((s[k].toNat : Int) ≤ 57) = false := by simp; omega
          clear hb hall hd
          go_wp2
          go_ret
          exact ⟨ret_int (by rw [HN.out]), rfl⟩
        · clear hb hall hd
          go_wp2
          go_ret
          exact ⟨ret_int (by rw [HN.out]), rfl⟩
    · have ek : s.data.toList.take k = s.data.toList := List.take_of_length_le (by simp; omega)
      rw [ek] at hall hd ⊢
      have HN : Hid (numD s = valD s.data.toList) := numD_yes s (okD_yes s h1 h2 hall)
      clear ek hall
      go_wp2
      go_ret
      exact ⟨ret_int (by rw [HN.out]), rfl⟩
end Go.Proofs.YtgfbahjpaaanoaaGreatDoor
/-
  What DeltaOf's model and DeltaOf itself answer, for any text; the law out of them.
-/
namespace Go.Proofs.YtgfbahjpaaanoaaGreatDoor
open Go.ChangeShapes Go.WideShapes Go.ChangeAt Go.RowKit
set_option maxHeartbeats 400000 in
theorem implDelta_size (s : ByteArray) (w : World) (h : s.size < 1 ∨ 64 < s.size) :
    Calls Tryz.prog 51 #[.string s] w fun e w' => e = .returned (.agg #[.int .i64 5, .int .i64 0]) ∧ Below w.heap.size w w' := by
  rcases h with h | h
  · have hh : (s.size : Int) < 1 := by omega
    go_enter Tryz.func51, Tryz.ntmps51
    go_wp2
    exact bodyPost_ret (v := .agg #[.int .i64 5, .int .i64 0]) (by simp [results, Tryz.results51, go_sem]) rfl ⟨rfl, (Below.refl _ _).alloc (Nat.le_refl _) _⟩
  · have hh : (64 : Int) < s.size := by omega
    have h1 : ¬ (s.size : Int) < 1 := by omega
    go_enter Tryz.func51, Tryz.ntmps51
    go_wp2
    exact bodyPost_ret (v := .agg #[.int .i64 5, .int .i64 0]) (by simp [results, Tryz.results51, go_sem]) rfl ⟨rfl, (Below.refl _ _).alloc (Nat.le_refl _) _⟩
def dC (s : ByteArray) : Int := if okD s = true then 0 else 5
def dV (s : ByteArray) : Int := if okD s = true then valD s.data.toList else 0
theorem dC_no {s : ByteArray} (h : okD s = false) : dC s = 5 := by simp [dC, h]
theorem dV_no {s : ByteArray} (h : okD s = false) : dV s = 0 := by simp [dV, h]
theorem dC_yes {s : ByteArray} (h : okD s = true) : dC s = 0 := by simp [dC, h]
theorem dV_yes {s : ByteArray} (h : okD s = true) : dV s = valD s.data.toList := by simp [dV, h]
set_option maxHeartbeats 1000000 in
theorem implDelta_any (s : ByteArray) (w : World) (h1 : 1 ≤ s.size) (h2 : s.size ≤ 64) :
    Calls Tryz.prog 51 #[.string s] w fun e w' => e = .returned (.agg #[.int .i64 (dC s), .int .i64 (dV s)]) ∧ Below w.heap.size w w' := by
  have g1 : ¬ (s.size : Int) < 1 := by omega
  have g2 : ¬ (64 : Int) < s.size := by omega
  go_enter Tryz.func51, Tryz.ntmps51
  go_wp2
  go_loop [3, 16] (fun n i => ∃ k : Nat, k ≤ s.size ∧ i = .int .i64 k ∧ allD (s.data.toList.take k) = true ∧ n = .int .i64 (valD (s.data.toList.take k))) (fun _ i => s.size - (intOf i).toNat)
  case atStart => exact ⟨0, Nat.zero_le _, rfl, rfl, rfl⟩
  case round =>
    obtain ⟨k, hk, rfl, hall, rfl⟩ := hrel
    have hd := valD_bd _ hall
    by_cases hlt : k < s.size
    · by_cases hdig : digB s[k] = true
      · have hb : 48 ≤ (s[k].toNat : Int) ∧ (s[k].toNat : Int) ≤ 57 := by simpa [digB] using hdig
        obtain ⟨hb1, hb2⟩ := hb
        have HS : Hid (valD (s.data.toList.take (k + 1)) = accD (valD (s.data.toList.take k)) s[k]) := by
          show _ = _
          rw [take_snoc s k hlt, valD_snoc]
        have HA : Hid (allD (s.data.toList.take (k + 1)) = true) := by
          show _ = _
          rw [take_snoc s k hlt, allD_snoc, hall, hdig]; rfl
        have d2 : decide ((s[k].toNat : Int) ≤ 57) = true := by simpa using hb2
        clear hdig hall
        generalize hv : valD (s.data.toList.take k) = n at *
        clear hv
        by_cases hm : n * 10 + ((s[k].toNat : Int) - 48) < 2147483648
        · have HE : Hid (valD (s.data.toList.take (k + 1)) = n * 10 + ((s[k].toNat : Int) - 48)) := by
            show _ = _
            rw [HS.out, accD, if_pos hm]
          go_wp2
          go_round
          case rel => exact ⟨k + 1, by omega, by go_num, HA.out, by first | (rw [HE.out]; done) | (rw [HE.out]; congr 1; first | omega | (simp only [Int.min_def]; split <;> omega))⟩
          case measure => simp [intOf]; omega
        · have HE : Hid (valD (s.data.toList.take (k + 1)) = 2147483648) := by
            show _ = _
            rw [HS.out, accD, if_neg hm]
          go_wp2
          go_round
          case rel => exact ⟨k + 1, by omega, by go_num, HA.out, by rw [HE.out]; congr 1; first | (split <;> omega) | omega | (simp only [Int.min_def]; split <;> omega)⟩
          case measure => simp [intOf]; omega
      · have hf : digB s[k] = false := by simpa using hdig
        have ho := okD_not s k hlt hf
        have HO : Hid (okD s = false) := ho
        have hb : ¬ (48 ≤ (s[k].toNat : Int) ∧ (s[k].toNat : Int) ≤ 57) := by simpa [digB] using hdig
        clear hdig hf ho
        by_cases hb1 : 48 ≤ (s[k].toNat : Int)
        · have hb2 : 57 < (s[k].toNat : Int) := by omega
          have d2 : decide ((s[k].toNat : Int) ≤ 57) = false := by simp; omega
          clear hb hall hd
          go_wp2
          exact bodyPost_ret (v := .agg #[.int .i64 5, .int .i64 0]) (by simp [results, Tryz.results51, go_sem]) rfl ⟨by rw [dC_no HO.out, dV_no HO.out], (Below.refl _ _).alloc (Nat.le_refl _) _⟩
        · clear hb hall hd
          go_wp2
          exact bodyPost_ret (v := .agg #[.int .i64 5, .int .i64 0]) (by simp [results, Tryz.results51, go_sem]) rfl ⟨by rw [dC_no HO.out, dV_no HO.out], (Below.refl _ _).alloc (Nat.le_refl _) _⟩
    · have ek : s.data.toList.take k = s.data.toList := List.take_of_length_le (by simp; omega)
      rw [ek] at hall hd ⊢
      have ho := okD_yes s h1 h2 hall
      have HO : Hid (okD s = true) := ho
      clear ek hall ho
      go_wp2
      exact bodyPost_ret (v := .agg #[.int .i64 0, .int .i64 (valD s.data.toList)]) (by simp [results, Tryz.results51, go_sem]) rfl ⟨by rw [dC_yes HO.out, dV_yes HO.out], (Below.refl _ _).alloc (Nat.le_refl _) _⟩
theorem implDelta (s : ByteArray) (w : World) :
    Calls Tryz.prog 51 #[.string s] w fun e w' => e = .returned (.agg #[.int .i64 (dC s), .int .i64 (dV s)]) ∧ Below w.heap.size w w' := by
  by_cases c : s.size < 1 ∨ 64 < s.size
  · have h : okD s = false := by
      rcases c with c | c
      · exact okD_short s c
      · exact okD_long s c
    rw [dC_no h, dV_no h]; exact implDelta_size s w c
  · exact implDelta_any s w (by omega) (by omega)
end Go.Proofs.YtgfbahjpaaanoaaGreatDoor
/-
  Two digits, on the model's side.
-/
namespace Go.Proofs.YtgfbahjpaaanoaaGreatDoor
open Go.ChangeShapes Go.WideShapes Go.ChangeAt Go.RowKit
theorem dg_nat {x : Int} (h0 : 0 ≤ x) (h1 : x < 10) : ((dg x).toNat : Int) = 48 + x := by
  unfold dg
  rw [UInt8.toNat_ofNat_of_lt' (by show 48 + x.toNat < 256; omega)]
  omega
theorem two_bytes (a b : Int) (x y : UInt8) (hx : (x.toNat : Int) = a) (hy : (y.toNat : Int) = b) (W : World) (B cap : Nat) (h0 : W.cell? ⟨B, 0, none⟩ = some (.int .u8 a)) (h1 : W.cell? ⟨B, 1, none⟩ = some (.int .u8 b)) :
    (convert 22 9 (.slice (some ⟨B, 0, none⟩) 2 cap)).run Tryz.prog W = .ok (.string ⟨#[x, y]⟩) W := by
  have := run_convert_bytes_back (P := Tryz.prog) W 22 9 5 ⟨B, 0, none⟩ cap [x, y] Tryz.underlying22 Tryz.underlying5 Tryz.underlying9 (fun j hj => by
    have hj2 : j = 0 ∨ j = 1 := by simp at hj; omega
    rcases hj2 with rfl | rfl
    · simp [Addr.add, h0, hx]
    · simp [Addr.add, h1, hy])
  simpa using this
set_option maxHeartbeats 1000000 in
theorem l3Two_any (n : Int) (h0 : 0 ≤ n) (h1 : n ≤ 9999) (w : World) :
    Calls Tryz.prog 147 #[.int .i64 n] w fun e w' => e = .returned (.string (two n)) ∧ Below w.heap.size w w' := by
  have hcv := two_bytes (48 + n / 10 % 10) (48 + n % 10) (dg (n / 10 % 10)) (dg (n % 10)) (dg_nat (by omega) (by omega)) (dg_nat (by omega) (by omega))
  have HT : Hid ((⟨#[dg (n / 10 % 10), dg (n % 10)]⟩ : ByteArray) = two n) := rfl
  generalize (⟨#[dg (n / 10 % 10), dg (n % 10)]⟩ : ByteArray) = r at *
  have e1 : IntKind.u8.wrap (48 + n / 10 % 10) = 48 + n / 10 % 10 := by rw [IntKind.wrap_u8]; omega
  have e2 : IntKind.u8.wrap (48 + n % 10) = 48 + n % 10 := by rw [IntKind.wrap_u8]; omega
  go_enter Tryz.func147, Tryz.ntmps147
  go_wp2_with fail
  go_ret
  exact ⟨ret_str HT.out, (Below.refl _ _).alloc (Nat.le_refl _) _⟩
theorem add_step (a b : ByteArray) (h : a.size + b.size ≤ 1000) : ∃ c, Hid (c = a ++ b) ∧ c.size = a.size + b.size ∧ ∀ w, (Op.stringOp .add a b).run Tryz.prog w = .ok (.string c) w :=
  ⟨a ++ b, rfl, ByteArray.size_append, fun w => run_string_add_sum (P := Tryz.prog) (w := w) a b (by omega)⟩
end Go.Proofs.YtgfbahjpaaanoaaGreatDoor
/-
  What the calendar's small functions answer, on both sides.
-/
namespace Go.Proofs.YtgfbahjpaaanoaaGreatDoor
open Go.ChangeShapes Go.WideShapes Go.ChangeAt Go.RowKit
set_option maxHeartbeats 400000 in
theorem l1In_yes (v lo hi : Int) (w : World) (h1 : lo ≤ v) (h2 : v ≤ hi) :
    Calls Tryz.prog 36 #[.int .i64 v, .int .i64 lo, .int .i64 hi] w fun e w' => e = .returned (.bool true) ∧ w' = w := by
  have d2 : decide (v ≤ hi) = true := by simpa using h2
  go_enter Tryz.func36, Tryz.ntmps36
  go_wp2
  go_ret
  exact ⟨rfl, rfl⟩
set_option maxHeartbeats 400000 in
theorem l1In_no (v lo hi : Int) (w : World) (h : v < lo ∨ hi < v) :
    Calls Tryz.prog 36 #[.int .i64 v, .int .i64 lo, .int .i64 hi] w fun e w' => e = .returned (.bool false) ∧ w' = w := by
  by_cases c : v < lo
  · clear h
    go_enter Tryz.func36, Tryz.ntmps36
    go_wp2
    go_ret
    exact ⟨rfl, rfl⟩
  · have c2 : hi < v := by omega
    have d2 : decide (v ≤ hi) = false := by simpa using c2
    clear h
    go_enter Tryz.func36, Tryz.ntmps36
    go_wp2
    go_ret
    exact ⟨rfl, rfl⟩
set_option maxHeartbeats 400000 in
theorem specLeap_any (y : Int) (w : World) (h0 : 0 ≤ y) (h1 : y ≤ 100000) :
    Calls Tryz.prog 176 #[.int .i64 y] w fun e w' => e = .returned (.bool (leap y)) ∧ w' = w := by
  by_cases c4 : y % 4 = 0
  · by_cases c1 : y % 100 = 0
    · by_cases c5 : y % 400 = 0
      · have HL : Hid (leap y = true) := by simp [Hid, leap, c4, c1, c5]
        go_enter Tryz.func176, Tryz.ntmps176
        go_wp2
        go_ret
        exact ⟨ret_bool (by simp [HL.out, *]), rfl⟩
      · have HL : Hid (leap y = false) := by simp [Hid, leap, c4, c1, c5]
        go_enter Tryz.func176, Tryz.ntmps176
        go_wp2
        go_ret
        exact ⟨ret_bool (by simp [HL.out, *]), rfl⟩
    · have HL : Hid (leap y = true) := by simp [Hid, leap, c4, c1]
      go_enter Tryz.func176, Tryz.ntmps176
      go_wp2
      go_ret
      exact ⟨ret_bool (by simp [HL.out, *]), rfl⟩
  · have HL : Hid (leap y = false) := by simp [Hid, leap, c4]
    go_enter Tryz.func176, Tryz.ntmps176
    go_wp2
    go_ret
    exact ⟨ret_bool (by simp [HL.out, *]), rfl⟩
set_option maxHeartbeats 400000 in
theorem implLeap_any (y : Int) (w : World) (h0 : 0 ≤ y) (h1 : y ≤ 100000) :
    Calls Tryz.prog 171 #[.int .i64 y] w fun e w' => e = .returned (.bool (leap y)) ∧ w' = w := by
  by_cases c4 : y % 4 = 0
  · by_cases c1 : y % 100 = 0
    · by_cases c5 : y % 400 = 0
      · have HL : Hid (leap y = true) := by simp [Hid, leap, c4, c1, c5]
        go_enter Tryz.func171, Tryz.ntmps171
        go_wp2
        go_ret
        exact ⟨ret_bool (by simp [HL.out, *]), rfl⟩
      · have HL : Hid (leap y = false) := by simp [Hid, leap, c4, c1, c5]
        go_enter Tryz.func171, Tryz.ntmps171
        go_wp2
        go_ret
        exact ⟨ret_bool (by simp [HL.out, *]), rfl⟩
    · have HL : Hid (leap y = true) := by simp [Hid, leap, c4, c1]
      go_enter Tryz.func171, Tryz.ntmps171
      go_wp2
      go_ret
      exact ⟨ret_bool (by simp [HL.out, *]), rfl⟩
  · have HL : Hid (leap y = false) := by simp [Hid, leap, c4]
    go_enter Tryz.func171, Tryz.ntmps171
    go_wp2
    go_ret
    exact ⟨ret_bool (by simp [HL.out, *]), rfl⟩
set_option maxHeartbeats 1000000 in
theorem specMonth_any (y m : Int) (w : World) (h0 : 0 ≤ y) (h1 : y ≤ 100000) (hm0 : 1 ≤ m) (hm1 : m ≤ 12) :
    Calls Tryz.prog 162 #[.int .i64 y, .int .i64 m] w fun e w' => e = .returned (.int .i64 (mlen y m)) ∧ w' = w := by
  by_cases h2 : m = 2
  · subst h2
    have HL := specLeap_any y w h0 h1
    have HM : Hid (mlen y 2 = if leap y = true then 29 else 28) := by simp [Hid, mlen]
    go_enter Tryz.func162, Tryz.ntmps162
    go_wp2_with fail
    refine HL.mono ?_
    rintro e w1 ⟨rfl, rfl⟩
    cases hl : leap y
    · go_wp2
      go_ret
      exact ⟨ret_int (by rw [HM.out, hl]; rfl), rfl⟩
    · go_wp2
      go_ret
      exact ⟨ret_int (by rw [HM.out, hl]; rfl), rfl⟩
  · rcases months hm0 hm1 with rfl | rfl | rfl | rfl | rfl | rfl | rfl | rfl | rfl | rfl | rfl | rfl
    all_goals first
      | exact absurd rfl h2
      | (clear h2
         go_enter Tryz.func162, Tryz.ntmps162
         go_wp2
         go_ret
         exact ⟨ret_int (by simp [mlen]), rfl⟩)
set_option maxHeartbeats 1000000 in
theorem implMonth_any (y m : Int) (w : World) (h0 : 0 ≤ y) (h1 : y ≤ 100000) (hm0 : 1 ≤ m) (hm1 : m ≤ 12) :
    Calls Tryz.prog 158 #[.int .i64 y, .int .i64 m] w fun e w' => e = .returned (.int .i64 (mlen y m)) ∧ w' = w := by
  by_cases h2 : m = 2
  · subst h2
    have HL := implLeap_any y w h0 h1
    have HM : Hid (mlen y 2 = if leap y = true then 29 else 28) := by simp [Hid, mlen]
    go_enter Tryz.func158, Tryz.ntmps158
    go_wp2_with fail
    refine HL.mono ?_
    rintro e w1 ⟨rfl, rfl⟩
    cases hl : leap y
    · go_wp2
      go_ret
      exact ⟨ret_int (by rw [HM.out, hl]; rfl), rfl⟩
    · go_wp2
      go_ret
      exact ⟨ret_int (by rw [HM.out, hl]; rfl), rfl⟩
  · rcases months hm0 hm1 with rfl | rfl | rfl | rfl | rfl | rfl | rfl | rfl | rfl | rfl | rfl | rfl
    all_goals first
      | exact absurd rfl h2
      | (clear h2
         go_enter Tryz.func158, Tryz.ntmps158
         go_wp2
         go_ret
         exact ⟨ret_int (by simp [mlen]), rfl⟩)
set_option maxHeartbeats 1000000 in
theorem specDay_any (y m d : Int) (w : World) :
    Calls Tryz.prog 145 #[.int .i64 y, .int .i64 m, .int .i64 d] w fun e w' => e = .returned (.bool (dayB y m d)) ∧ w' = w := by
  by_cases cy : y < 1970 ∨ 9999 < y
  · have HB : Hid (dayB y m d = false) := by
      show _ = _
      cases k : dayB y m d
      · rfl
      · have := dayB_yes k; have := this.y0; have := (dayB_yes k).y1; omega
    have H := l1In_no y 1970 9999 w cy
    clear cy
    go_enter Tryz.func145, Tryz.ntmps145
    go_wp2_with fail
    refine H.mono ?_
    rintro e w1 ⟨rfl, rfl⟩
    go_wp2
    go_ret
    exact ⟨ret_bool (by rw [HB.out]), rfl⟩
  by_cases cm : m < 1 ∨ 12 < m
  · have HB : Hid (dayB y m d = false) := by
      show _ = _
      cases k : dayB y m d
      · rfl
      · have := dayB_yes k; have := this.m0; have := (dayB_yes k).m1; omega
    have H := l1In_yes y 1970 9999 w (by omega) (by omega)
    have H2 : Hid (∀ w, Calls Tryz.prog 36 #[.int .i64 m, .int .i64 1, .int .i64 12] w fun e w' => e = .returned (.bool false) ∧ w' = w) := fun w => l1In_no m 1 12 w cm
    clear cy cm
    go_enter Tryz.func145, Tryz.ntmps145
    go_wp2_with fail
    refine H.mono ?_
    rintro e w1 ⟨rfl, rfl⟩
    go_wp2_with fail
    refine (H2.out _).mono ?_
    rintro e w1 ⟨rfl, rfl⟩
    go_wp2
    go_ret
    exact ⟨ret_bool (by rw [HB.out]), rfl⟩
  have H := l1In_yes y 1970 9999 w (by omega) (by omega)
  have H2 : Hid (∀ w, Calls Tryz.prog 36 #[.int .i64 m, .int .i64 1, .int .i64 12] w fun e w' => e = .returned (.bool true) ∧ w' = w) := fun w => l1In_yes m 1 12 w (by omega) (by omega)
  have H3 : Hid (∀ w, Calls Tryz.prog 162 #[.int .i64 y, .int .i64 m] w fun e w' => e = .returned (.int .i64 (mlen y m)) ∧ w' = w) := fun w => specMonth_any y m w (by omega) (by omega) (by omega) (by omega)
  have H4 : Hid (∀ w, Calls Tryz.prog 36 #[.int .i64 d, .int .i64 1, .int .i64 (mlen y m)] w fun e w' => e = .returned (.bool (dayB y m d)) ∧ w' = w) := by
    intro w
    cases k : dayB y m d
    · have := dayB_no k
      refine l1In_no d 1 _ w ?_
      rcases Int.lt_or_le d 1 with h | h
      · exact .inl h
      · rcases Int.lt_or_le (mlen y m) d with h2 | h2
        · exact .inr h2
        · exact absurd ⟨by omega, by omega, by omega, by omega, h, h2⟩ this
    · have k2 := dayB_yes k
      exact l1In_yes d 1 _ w k2.d0 k2.d1
  clear cy cm
  go_enter Tryz.func145, Tryz.ntmps145
  go_wp2_with fail
  refine H.mono ?_
  rintro e w1 ⟨rfl, rfl⟩
  go_wp2_with fail
  refine (H2.out _).mono ?_
  rintro e w1 ⟨rfl, rfl⟩
  go_wp2_with fail
  refine (H3.out _).mono ?_
  rintro e w1 ⟨rfl, rfl⟩
  go_wp2_with fail
  refine (H4.out _).mono ?_
  rintro e w1 ⟨rfl, rfl⟩
  go_wp2
  go_ret
  exact ⟨rfl, rfl⟩
set_option maxHeartbeats 1000000 in
theorem implDay_any (y m d : Int) (w : World) :
    Calls Tryz.prog 156 #[.int .i64 y, .int .i64 m, .int .i64 d] w fun e w' => e = .returned (.bool (dayB y m d)) ∧ w' = w := by
  by_cases cy0 : y < 1970
  · have HB : Hid (dayB y m d = false) := by
      show _ = _
      cases k : dayB y m d
      · rfl
      · have := (dayB_yes k).y0; omega
    go_enter Tryz.func156, Tryz.ntmps156
    go_wp2
    go_ret
    exact ⟨ret_bool (by rw [HB.out]), rfl⟩
  by_cases cy1 : 9999 < y
  · have HB : Hid (dayB y m d = false) := by
      show _ = _
      cases k : dayB y m d
      · rfl
      · have := (dayB_yes k).y1; omega
    go_enter Tryz.func156, Tryz.ntmps156
    go_wp2
    go_ret
    exact ⟨ret_bool (by rw [HB.out]), rfl⟩
  by_cases cm0 : m < 1
  · have HB : Hid (dayB y m d = false) := by
      show _ = _
      cases k : dayB y m d
      · rfl
      · have := (dayB_yes k).m0; omega
    go_enter Tryz.func156, Tryz.ntmps156
    go_wp2
    go_ret
    exact ⟨ret_bool (by rw [HB.out]), rfl⟩
  by_cases cm1 : 12 < m
  · have HB : Hid (dayB y m d = false) := by
      show _ = _
      cases k : dayB y m d
      · rfl
      · have := (dayB_yes k).m1; omega
    go_enter Tryz.func156, Tryz.ntmps156
    go_wp2
    go_ret
    exact ⟨ret_bool (by rw [HB.out]), rfl⟩
  by_cases cd0 : d < 1
  · have HB : Hid (dayB y m d = false) := by
      show _ = _
      cases k : dayB y m d
      · rfl
      · have := (dayB_yes k).d0; omega
    go_enter Tryz.func156, Tryz.ntmps156
    go_wp2
    go_ret
    exact ⟨ret_bool (by rw [HB.out]), rfl⟩
  have H3 : Hid (∀ w, Calls Tryz.prog 158 #[.int .i64 y, .int .i64 m] w fun e w' => e = .returned (.int .i64 (mlen y m)) ∧ w' = w) := fun w => implMonth_any y m w (by omega) (by omega) (by omega) (by omega)
  have HB : Hid (decide (d ≤ mlen y m) = dayB y m d) := by
    show _ = _
    have e1 : decide (1970 ≤ y) = true := by simp; omega
    have e2 : decide (y ≤ 9999) = true := by simp; omega
    have e3 : decide (1 ≤ m) = true := by simp; omega
    have e4 : decide (m ≤ 12) = true := by simp; omega
    have e5 : decide (1 ≤ d) = true := by simp; omega
    simp only [dayB, e1, e2, e3, e4, e5, Bool.true_and]
  generalize hx : mlen y m = x at *
  clear hx
  go_enter Tryz.func156, Tryz.ntmps156
  go_wp2_with fail
  refine (H3.out _).mono ?_
  rintro e w1 ⟨rfl, rfl⟩
  go_wp2
  go_ret
  exact ⟨ret_bool (by rw [← HB.out]), rfl⟩
end Go.Proofs.YtgfbahjpaaanoaaGreatDoor
/-
  The days ahead of a year and of a date, on both sides.
-/
namespace Go.Proofs.YtgfbahjpaaanoaaGreatDoor
open Go.ChangeShapes Go.WideShapes Go.ChangeAt Go.RowKit
set_option maxHeartbeats 400000 in
theorem implLeaps_any (y : Int) (w : World) (h0 : 0 ≤ y) (h1 : y ≤ 100000) :
    Calls Tryz.prog 170 #[.int .i64 y] w fun e w' => e = .returned (.int .i64 (y / 4 - y / 100 + y / 400)) ∧ w' = w := by
  go_enter Tryz.func170, Tryz.ntmps170
  go_wp2
  go_ret
  exact ⟨ret_int (by omega), rfl⟩
set_option maxHeartbeats 400000 in
theorem implAhead_any (y : Int) (w : World) (h0 : 1970 ≤ y) (h1 : y ≤ 10001) :
    Calls Tryz.prog 157 #[.int .i64 y] w fun e w' => e = .returned (.int .i64 (ahead y)) ∧ w' = w := by
  have H1 : Hid (∀ w, Calls Tryz.prog 170 #[.int .i64 (y - 1)] w fun e w' => e = .returned (.int .i64 ((y - 1) / 4 - (y - 1) / 100 + (y - 1) / 400)) ∧ w' = w) := fun w => implLeaps_any _ w (by omega) (by omega)
  have H2 : Hid (∀ w, Calls Tryz.prog 170 #[.int .i64 1969] w fun e w' => e = .returned (.int .i64 477) ∧ w' = w) := fun w => implLeaps_any 1969 w (by omega) (by omega)
  have HA : Hid (ahead y = 365 * (y - 1970) + ((y - 1) / 4 - (y - 1) / 100 + (y - 1) / 400) - 477) := rfl
  have hx : 0 ≤ (y - 1) / 4 - (y - 1) / 100 + (y - 1) / 400 ∧ (y - 1) / 4 - (y - 1) / 100 + (y - 1) / 400 ≤ 100000 := by omega
  generalize (y - 1) / 4 - (y - 1) / 100 + (y - 1) / 400 = x at *
  obtain ⟨hx0, hx1⟩ := hx
  go_enter Tryz.func157, Tryz.ntmps157
  go_wp2_with fail
  refine (H1.out _).mono ?_
  rintro e w1 ⟨rfl, rfl⟩
  go_wp2_with fail
  refine (H2.out _).mono ?_
  rintro e w1 ⟨rfl, rfl⟩
  go_wp2
  go_ret
  exact ⟨ret_int (by rw [HA.out]), rfl⟩
set_option maxHeartbeats 400000 in
theorem specYear_any (y : Int) (w : World) (h0 : 0 ≤ y) (h1 : y ≤ 100000) :
    Calls Tryz.prog 163 #[.int .i64 y] w fun e w' => e = .returned (.int .i64 (ylen y)) ∧ w' = w := by
  have H := specLeap_any y w h0 h1
  have HM : Hid (ylen y = if leap y = true then 366 else 365) := by simp [Hid, ylen]
  go_enter Tryz.func163, Tryz.ntmps163
  go_wp2_with fail
  refine H.mono ?_
  rintro e w1 ⟨rfl, rfl⟩
  cases hl : leap y
  · go_wp2
    go_ret
    exact ⟨ret_int (by rw [HM.out, hl]; rfl), rfl⟩
  · go_wp2
    go_ret
    exact ⟨ret_int (by rw [HM.out, hl]; rfl), rfl⟩
set_option maxHeartbeats 1000000 in
theorem specDays_any (y m d : Int) (w : World) (h : DayOk y m d) :
    Calls Tryz.prog 148 #[.int .i64 y, .int .i64 m, .int .i64 d] w fun e w' => e = .returned (.int .i64 (daysD y m d)) ∧ w' = w := by
  obtain ⟨hy0, hy1, hm0, hm1, hd0, hd1⟩ := h
  have hd2 : d ≤ 31 := by have := mlen_bd y m; omega
  have HD : Hid (daysD y m d = d - 1 + ahead y + msum y m) := by show _ = _; unfold daysD; omega
  clear hd1
  go_enter Tryz.func148, Tryz.ntmps148
  go_wp2
  go_loop [7, 8] (fun n x => ∃ k : Int, 1970 ≤ k ∧ k ≤ y ∧ x = .int .i64 k ∧ n = .int .i64 (d - 1 + ahead k)) (fun _ x => (y - intOf x).toNat)
  case atStart => exact ⟨1970, by omega, hy0, rfl, by rw [ahead_first]; congr 1; omega⟩
  case round =>
    obtain ⟨k, hk0, hk1, rfl, rfl⟩ := hrel
    by_cases hlt : k < y
    · have H := specYear_any k
      have HA : Hid (ahead (k + 1) = ahead k + ylen k) := ahead_succ k
      have ⟨ha0, ha1⟩ := ahead_bd hk0 (by omega)
      have ⟨hl0, hl1⟩ := ylen_bd k
      generalize ylen k = l at *
      generalize ahead k = a at *
      go_wp2_with fail
      refine (H _ (by omega) (by omega)).mono ?_
      rintro e w1 ⟨rfl, rfl⟩
      clear H
      go_wp2
      go_round
      case rel => exact ⟨k + 1, by omega, by omega, by go_num, by rw [HA.out]; congr 1; omega⟩
      case measure => simp [intOf]; omega
    · obtain rfl : k = y := by omega
      have ⟨ha0, ha1⟩ := ahead_bd hk0 (by omega)
      generalize ahead k = a at *
      go_wp2
      go_loop [7, 9] (fun n x => ∃ j : Int, 1 ≤ j ∧ j ≤ m ∧ x = .int .i64 j ∧ n = .int .i64 (d - 1 + a + msum k j)) (fun _ x => (m - intOf x).toNat)
      case atStart => exact ⟨1, by omega, hm0, rfl, by rw [msum_first]; congr 1; omega⟩
      case round =>
        obtain ⟨j, hj0, hj1, rfl, rfl⟩ := hrel
        have hs0 := msum_mono k (a := 1) (b := j) (by omega) (by omega) (by omega)
        have hs1 := msum_mono k (a := j) (b := 13) (by omega) (by omega) (by omega)
        rw [msum_first] at hs0
        rw [msum_end] at hs1
        have hs2 := (ylen_bd k).2
        have hs3 : msum k j ≤ 366 := by omega
        clear hs1 hs2
        by_cases hlt2 : j < m
        · have H := specMonth_any k j
          have HA : Hid (msum k (j + 1) = msum k j + mlen k j) := msum_succ k (by omega) (by omega)
          have ⟨hl0, hl1⟩ := mlen_bd k j
          generalize mlen k j = l at *
          generalize msum k j = b at *
          go_wp2_with fail
          refine (H _ (by omega) (by omega) (by omega) (by omega)).mono ?_
          rintro e w1 ⟨rfl, rfl⟩
          clear H
          go_wp2
          go_round
          case rel => exact ⟨j + 1, by omega, by omega, by go_num, by rw [HA.out]; congr 1; omega⟩
          case measure => simp [intOf]; omega
        · obtain rfl : j = m := by omega
          go_wp2
          go_ret
          exact ⟨ret_int (by rw [HD.out]), rfl⟩
end Go.Proofs.YtgfbahjpaaanoaaGreatDoor
/-
  DateAt, on both sides.
-/
namespace Go.Proofs.YtgfbahjpaaanoaaGreatDoor
open Go.ChangeShapes Go.WideShapes Go.ChangeAt Go.RowKit
theorem ret_date {n y m d h i s : Int} (k : DateOk y m d h i s) (e : secsD y m d h i s = n) :
    Ending.returned (.agg #[.int .i64 y, .int .i64 m, .int .i64 d, .int .i64 h, .int .i64 i, .int .i64 s]) = .returned (.agg #[.int .i64 (dY n), .int .i64 (dM n), .int .i64 (dD n), .int .i64 (dH n), .int .i64 (dI n), .int .i64 (dS n)]) := by
  obtain ⟨e1, e2, e3, e4, e5, e6⟩ := date_is k e
  rw [← e1, ← e2, ← e3, ← e4, ← e5, ← e6]
theorem ret_date0 {n y m d h i s : Int} (k : DateOk y m d h i s) (e : secsD y m d h i s = n) :
    Ending.returned (.agg #[.int .i64 0, .int .i64 y, .int .i64 m, .int .i64 d, .int .i64 h, .int .i64 i, .int .i64 s]) = .returned (.agg #[.int .i64 0, .int .i64 (dY n), .int .i64 (dM n), .int .i64 (dD n), .int .i64 (dH n), .int .i64 (dI n), .int .i64 (dS n)]) := by
  obtain ⟨e1, e2, e3, e4, e5, e6⟩ := date_is k e
  rw [← e1, ← e2, ← e3, ← e4, ← e5, ← e6]
set_option maxHeartbeats 2000000 in
theorem specAt_any (n : Int) (w : World) (h0 : 0 ≤ n) (h1 : n ≤ 253402300799) :
    Calls Tryz.prog 146 #[.int .i64 n] w fun e w' => e = .returned (.agg #[.int .i64 (dY n), .int .i64 (dM n), .int .i64 (dD n), .int .i64 (dH n), .int .i64 (dI n), .int .i64 (dS n)]) ∧ Below w.heap.size w w' := by
  have HR : Hid (∀ y m, 1970 ≤ y → ahead y ≤ n / 86400 → 1 ≤ m → m ≤ 12 → msum y m ≤ n / 86400 - ahead y → n / 86400 - ahead y < msum y m + mlen y m →
      Ending.returned (.agg #[.int .i64 y, .int .i64 m, .int .i64 (n / 86400 - ahead y - msum y m + 1), .int .i64 (n % 86400 / 3600), .int .i64 (n % 86400 / 60 % 60), .int .i64 (n % 86400 % 60)]) = .returned (.agg #[.int .i64 (dY n), .int .i64 (dM n), .int .i64 (dD n), .int .i64 (dH n), .int .i64 (dI n), .int .i64 (dS n)])) := by
    intro y m a b c d e f
    have := date_at h0 h1 a b c d e f
    exact ret_date this.1 this.2
  obtain ⟨D, hD, hD0, hD1⟩ : ∃ D : Int, n / 86400 = D ∧ 0 ≤ D ∧ D ≤ 2932896 := ⟨_, rfl, by omega, by omega⟩
  obtain ⟨R, hR, hR0, hR1⟩ : ∃ R : Int, n % 86400 = R ∧ 0 ≤ R ∧ R < 86400 := ⟨_, rfl, by omega, by omega⟩
  rw [hD, hR] at HR
  go_enter Tryz.func146, Tryz.ntmps146
  go_wp2
  rw [hD, hR]
  clear hD hR
  go_loop [3, 5] (fun dd yy => ∃ k : Int, 1970 ≤ k ∧ k ≤ 9999 ∧ ahead k ≤ D ∧ yy = .int .i64 k ∧ dd = .int .i64 (D - ahead k)) (fun _ yy => (10000 - intOf yy).toNat)
  case atStart => exact ⟨1970, by omega, by omega, by rw [ahead_first]; exact hD0, rfl, by rw [ahead_first]; congr 1; omega⟩
  case round =>
    obtain ⟨k, hk0, hk1, hk2, rfl, rfl⟩ := hrel
    have H := specYear_any k
    have HA : Hid (ahead (k + 1) = ahead k + ylen k) := ahead_succ k
    have HX : Hid (k = 9999 → ahead (k + 1) = 2932897) := fun e => by subst e; exact ahead_end
    have ⟨hl0, hl1⟩ := ylen_bd k
    have ⟨ha0, ha1⟩ := ahead_bd hk0 (by omega)
    have HE := msum_end k
    generalize ylen k = l at *
    have HZ : Hid (∀ x, ahead k = x → x = ahead k) := fun x h => h.symm
    generalize hak : ahead k = a at *
    go_wp2_with fail
    refine (H _ (by omega) (by omega)).mono ?_
    rintro e w1 ⟨rfl, rfl⟩
    by_cases hlt : D - a < l
    · clear H
      go_wp2
      go_loop [3, 6] (fun dd mm => ∃ j : Int, 1 ≤ j ∧ j ≤ 12 ∧ msum k j ≤ D - a ∧ mm = .int .i64 j ∧ dd = .int .i64 (D - a - msum k j)) (fun _ mm => (13 - intOf mm).toNat)
      case atStart => exact ⟨1, by omega, by omega, by rw [msum_first]; omega, rfl, by rw [msum_first]; congr 1; omega⟩
      case round =>
        obtain ⟨j, hj0, hj1, hj2, rfl, rfl⟩ := hrel
        have H := specMonth_any k j
        have HS : Hid (msum k (j + 1) = msum k j + mlen k j) := msum_succ k hj0 hj1
        have HY : Hid (j = 12 → msum k (j + 1) = l) := fun e => by subst e; exact HE
        have HQ := HR.out k j hk0 (by omega) hj0 hj1 (by omega)
        have hs0 := msum_mono k (a := 1) (b := j) (by omega) (by omega) (by omega)
        rw [msum_first] at hs0
        rw [hak] at HQ
        have HQ2 : Hid _ := HQ
        clear HQ
        have ⟨hl2, hl3⟩ := mlen_bd k j
        generalize mlen k j = q at *
        generalize msum k j = b at *
        go_wp2_with fail
        refine (H _ (by omega) (by omega) (by omega) (by omega)).mono ?_
        rintro e w1 ⟨rfl, rfl⟩
        by_cases hlt2 : D - a - b < q
        · clear H
          go_wp2
          exact bodyPost_ret (v := .agg #[.int .i64 k, .int .i64 j, .int .i64 (D - a - b + 1), .int .i64 (R / 3600), .int .i64 (R / 60 % 60), .int .i64 (R % 60)]) (by simp [results, Tryz.results146, go_sem]) rfl ⟨HQ2.out (by omega), (Below.refl _ _).alloc (Nat.le_refl _) _⟩
        · have hj3 : j < 12 := by
            rcases Int.lt_or_le j 12 with z | z
            · exact z
            · have := HY.out (by omega); have := HS.out; omega
          go_wp2_with fail
          refine (H _ (by omega) (by omega) (by omega) (by omega)).mono ?_
          rintro e w1 ⟨rfl, rfl⟩
          clear H
          go_wp2
          go_round
          case rel => exact ⟨j + 1, by omega, by omega, by rw [HS.out]; omega, by go_num, by rw [HS.out]; congr 1; omega⟩
          case measure => simp [intOf]; omega
    · have hk3 : k < 9999 := by
        rcases Int.lt_or_le k 9999 with z | z
        · exact z
        · have := HX.out (by omega); have := HA.out; omega
      go_wp2_with fail
      refine (H _ (by omega) (by omega)).mono ?_
      rintro e w1 ⟨rfl, rfl⟩
      clear H
      go_wp2
      go_round
      case rel => exact ⟨k + 1, by omega, by omega, by rw [HA.out]; omega, by go_num, by rw [HA.out]; congr 1; omega⟩
      case measure => simp [intOf]; omega
end Go.Proofs.YtgfbahjpaaanoaaGreatDoor
/-
  A date, and a code with a number, in memory.
-/
namespace Go.Proofs.YtgfbahjpaaanoaaGreatDoor
open Go.ChangeShapes Go.WideShapes Go.ChangeAt Go.RowKit
/-- A date in memory. -/
structure DateAtB (w : World) (b : Nat) (y m d h i s : Int) : Prop where
  c0 : w.cell? ⟨b, 0, none⟩ = some (.int .i64 y)
  c1 : w.cell? ⟨b, 1, none⟩ = some (.int .i64 m)
  c2 : w.cell? ⟨b, 2, none⟩ = some (.int .i64 d)
  c3 : w.cell? ⟨b, 3, none⟩ = some (.int .i64 h)
  c4 : w.cell? ⟨b, 4, none⟩ = some (.int .i64 i)
  c5 : w.cell? ⟨b, 5, none⟩ = some (.int .i64 s)
  fr : ∀ o, w.frozen? ⟨b, o, none⟩ = false
theorem DateAtB.keep {w w' : World} {b : Nat} {y m d h i s : Int} (k : DateAtB w b y m d h i s) (hb : Below w.heap.size w w') : DateAtB w' b y m d h i s := by
  obtain ⟨c0, c1, c2, c3, c4, c5, fr⟩ := k
  have hl := block_lt_of_cell c0
  exact ⟨by rw [hb.cell (p := ⟨b, 0, none⟩) hl, c0], by rw [hb.cell (p := ⟨b, 1, none⟩) hl, c1], by rw [hb.cell (p := ⟨b, 2, none⟩) hl, c2], by rw [hb.cell (p := ⟨b, 3, none⟩) hl, c3], by rw [hb.cell (p := ⟨b, 4, none⟩) hl, c4], by rw [hb.cell (p := ⟨b, 5, none⟩) hl, c5], fun o => by rw [hb.frozen (p := ⟨b, o, none⟩) hl, fr]⟩
theorem set_get {w : World} {B o o' : Nat} {u v : Value} (h : w.cell? ⟨B, o, none⟩ = some u) : (w.setCell ⟨B, o', none⟩ v).cell? ⟨B, o, none⟩ = some (if o = o' then v else u) := by
  by_cases e : o = o'
  · subst e; rw [World.cell?_setCell_same _ _ _ h]; simp
  · rw [World.cell?_setCell_other _ _ _ _ (by intro h; have := congrArg Addr.off h; simp at this; omega), h]; simp [e]
theorem DateAtB.set0 {w : World} {b : Nat} {y m d h i s : Int} (k : DateAtB w b y m d h i s) (x : Int) : DateAtB (w.setCell ⟨b, 0, none⟩ (.int .i64 x)) b x m d h i s :=
  ⟨by rw [set_get k.c0]; rfl, by rw [set_get k.c1]; rfl, by rw [set_get k.c2]; rfl, by rw [set_get k.c3]; rfl, by rw [set_get k.c4]; rfl, by rw [set_get k.c5]; rfl, fun o => by rw [World.frozen?_setCell, k.fr]⟩
theorem DateAtB.set1 {w : World} {b : Nat} {y m d h i s : Int} (k : DateAtB w b y m d h i s) (x : Int) : DateAtB (w.setCell ⟨b, 1, none⟩ (.int .i64 x)) b y x d h i s :=
  ⟨by rw [set_get k.c0]; rfl, by rw [set_get k.c1]; rfl, by rw [set_get k.c2]; rfl, by rw [set_get k.c3]; rfl, by rw [set_get k.c4]; rfl, by rw [set_get k.c5]; rfl, fun o => by rw [World.frozen?_setCell, k.fr]⟩
theorem DateAtB.set2 {w : World} {b : Nat} {y m d h i s : Int} (k : DateAtB w b y m d h i s) (x : Int) : DateAtB (w.setCell ⟨b, 2, none⟩ (.int .i64 x)) b y m x h i s :=
  ⟨by rw [set_get k.c0]; rfl, by rw [set_get k.c1]; rfl, by rw [set_get k.c2]; rfl, by rw [set_get k.c3]; rfl, by rw [set_get k.c4]; rfl, by rw [set_get k.c5]; rfl, fun o => by rw [World.frozen?_setCell, k.fr]⟩
theorem DateAtB.set3 {w : World} {b : Nat} {y m d h i s : Int} (k : DateAtB w b y m d h i s) (x : Int) : DateAtB (w.setCell ⟨b, 3, none⟩ (.int .i64 x)) b y m d x i s :=
  ⟨by rw [set_get k.c0]; rfl, by rw [set_get k.c1]; rfl, by rw [set_get k.c2]; rfl, by rw [set_get k.c3]; rfl, by rw [set_get k.c4]; rfl, by rw [set_get k.c5]; rfl, fun o => by rw [World.frozen?_setCell, k.fr]⟩
theorem DateAtB.set4 {w : World} {b : Nat} {y m d h i s : Int} (k : DateAtB w b y m d h i s) (x : Int) : DateAtB (w.setCell ⟨b, 4, none⟩ (.int .i64 x)) b y m d h x s :=
  ⟨by rw [set_get k.c0]; rfl, by rw [set_get k.c1]; rfl, by rw [set_get k.c2]; rfl, by rw [set_get k.c3]; rfl, by rw [set_get k.c4]; rfl, by rw [set_get k.c5]; rfl, fun o => by rw [World.frozen?_setCell, k.fr]⟩
theorem DateAtB.set5 {w : World} {b : Nat} {y m d h i s : Int} (k : DateAtB w b y m d h i s) (x : Int) : DateAtB (w.setCell ⟨b, 5, none⟩ (.int .i64 x)) b y m d h i x :=
  ⟨by rw [set_get k.c0]; rfl, by rw [set_get k.c1]; rfl, by rw [set_get k.c2]; rfl, by rw [set_get k.c3]; rfl, by rw [set_get k.c4]; rfl, by rw [set_get k.c5]; rfl, fun o => by rw [World.frozen?_setCell, k.fr]⟩
theorem DateAtB.other {w : World} {b b' o' : Nat} {v : Value} {y m d h i s : Int} (k : DateAtB w b y m d h i s) (hn : b ≠ b') : DateAtB (w.setCell ⟨b', o', none⟩ v) b y m d h i s := by
  have e : ∀ o, (w.setCell ⟨b', o', none⟩ v).cell? ⟨b, o, none⟩ = w.cell? ⟨b, o, none⟩ := fun o => World.cell?_setCell_other _ _ _ _ (by intro h; have := congrArg Addr.block h; simp at this; omega)
  exact ⟨by rw [e, k.c0], by rw [e, k.c1], by rw [e, k.c2], by rw [e, k.c3], by rw [e, k.c4], by rw [e, k.c5], fun o => by rw [World.frozen?_setCell, k.fr]⟩
theorem dateAtB_new (w : World) (y m d h i s : Int) (t : TypeId) : DateAtB (w.alloc (.cells #[.int .i64 y, .int .i64 m, .int .i64 d, .int .i64 h, .int .i64 i, .int .i64 s] t)) w.heap.size y m d h i s :=
  ⟨by simp, by simp, by simp, by simp, by simp, by simp, fun o => by simp⟩
theorem ifield_val (c v : Int) (w : World) : (Instr.field 34 (.agg #[.int .i64 c, .int .i64 v]) 1).run Tryz.prog w = .ok (.int .i64 v) w := by kernel_rfl
/-- A code and a number in memory. -/
structure Room2 (w : World) (b : Nat) (c v : Int) : Prop where
  c0 : w.cell? ⟨b, 0, none⟩ = some (.int .i64 c)
  c1 : w.cell? ⟨b, 1, none⟩ = some (.int .i64 v)
  f0 : w.frozen? ⟨b, 0, none⟩ = false
  f1 : w.frozen? ⟨b, 1, none⟩ = false
theorem Room2.keep {w w' : World} {b : Nat} {c v : Int} (h : Room2 w b c v) (hb : Below w.heap.size w w') : Room2 w' b c v :=
  ⟨by rw [hb.cell (p := ⟨b, 0, none⟩) (block_lt_of_cell h.c0), h.c0], by rw [hb.cell (p := ⟨b, 1, none⟩) (block_lt_of_cell h.c1), h.c1], by rw [hb.frozen (p := ⟨b, 0, none⟩) (block_lt_of_cell h.c0), h.f0], by rw [hb.frozen (p := ⟨b, 1, none⟩) (block_lt_of_cell h.c1), h.f1]⟩
theorem room2_new (w : World) (c v : Int) (t : TypeId) : Room2 (w.alloc (.cells #[.int .i64 c, .int .i64 v] t)) w.heap.size c v := ⟨by simp, by simp, by simp, by simp⟩
end Go.Proofs.YtgfbahjpaaanoaaGreatDoor
/-
  The text of known seconds, on the model's side.
-/
namespace Go.Proofs.YtgfbahjpaaanoaaGreatDoor
open Go.ChangeShapes Go.WideShapes Go.ChangeAt Go.RowKit Go.Sort
theorem day_slice (x : Int) (h0 : 0 ≤ x) (h1 : x < 7) (w : World) :
    (Instr.slice 9 (.string dayNames) (some (.int .i64 (3 * x))) (some (.int .i64 (3 * x + 3))) none).run Tryz.prog w = .ok (.string (wdT x)) w :=
  run_slice_string (P := Tryz.prog) w 9 dayNames .i64 .i64 (3 * x) (3 * x + 3) Tryz.underlying9 (by omega) (by omega) (by show (3 * x + 3) ≤ ((21 : Nat) : Int); omega)
theorem mon_slice (m : Int) (h0 : 1 ≤ m) (h1 : m ≤ 12) (w : World) :
    (Instr.slice 9 (.string monNames) (some (.int .i64 (3 * m - 3))) (some (.int .i64 (3 * m))) none).run Tryz.prog w = .ok (.string (moT m)) w :=
  run_slice_string (P := Tryz.prog) w 9 monNames .i64 .i64 (3 * m - 3) (3 * m) Tryz.underlying9 (by omega) (by omega) (by show 3 * m ≤ ((36 : Nat) : Int); omega)
set_option maxRecDepth 100000 in
set_option maxHeartbeats 8000000 in
theorem l3Format_any (n : Int) (w : World) (h0 : 0 ≤ n) (h1 : n ≤ 253402300799) :
    Calls Tryz.prog 122 #[.int .i64 n] w fun e w' => e = .returned (.string (fmtT n)) ∧ Below w.heap.size w w' := by
  have HAT := specAt_any n w h0 h1
  have hk := date_ok h0 h1
  obtain ⟨⟨hy0, hy1, hm0, hm1, hd0, hd1⟩, hh0, hh1, hi0, hi1, hs0, hs1⟩ := hk
  have hd2 := (mlen_bd (dY n) (dM n)).2
  have HF : Hid (fmtT n = dateText ((n / 86400 + 4) % 7) (dY n) (dM n) (dD n) (dH n) (dI n) (dS n)) := rfl
  obtain ⟨x, hx, hx0, hx1⟩ : ∃ x : Int, Hid ((n / 86400 + 4) % 7 = x) ∧ 0 ≤ x ∧ x < 7 := ⟨_, rfl, by omega, by omega⟩
  rw [hx.out] at HF
  have hd3 : dD n ≤ 31 := by omega
  clear hd1 hd2
  generalize dY n = y at *
  generalize dM n = m at *
  generalize dD n = d at *
  generalize dH n = h at *
  generalize dI n = i at *
  generalize dS n = s at *
  have HE : Hid (dateText x y m d h i s = wdT x ++ ⟨#[44, 32]⟩ ++ two d ++ ⟨#[32]⟩ ++ moT m ++ ⟨#[32]⟩ ++ two (y / 100) ++ two y ++ ⟨#[32]⟩ ++ two h ++ ⟨#[58]⟩ ++ two i ++ ⟨#[58]⟩ ++ two s ++ ⟨#[32, 71, 77, 84]⟩) := rfl
  have hsd := day_slice x hx0 hx1
  have hsm := mon_slice m hm0 hm1
  have ztx := wdT_size hx0 hx1
  have ztm := moT_size hm0 hm1
  have ztD := two_size d
  have ztC := two_size (y / 100)
  have ztY := two_size y
  have ztH := two_size h
  have ztI := two_size i
  have ztS := two_size s
  have HT : Hid (∀ v w, 0 ≤ v → v ≤ 9999 → Calls Tryz.prog 147 #[.int .i64 v] w fun e w' => e = .returned (.string (two v)) ∧ Below w.heap.size w w') := fun v w a b => l3Two_any v a b w
  generalize wdT x = tx at *
  generalize moT m = tm at *
  have zkc1 : (⟨#[44, 32]⟩ : ByteArray).size = 2 := rfl
  obtain ⟨c1, Ec1, zc1, rc1⟩ := add_step tx ⟨#[44, 32]⟩ (by omega)
  obtain ⟨c2, Ec2, zc2, rc2⟩ := add_step c1 (two d) (by omega)
  have zkc3 : (⟨#[32]⟩ : ByteArray).size = 1 := rfl
  obtain ⟨c3, Ec3, zc3, rc3⟩ := add_step c2 ⟨#[32]⟩ (by omega)
  obtain ⟨c4, Ec4, zc4, rc4⟩ := add_step c3 tm (by omega)
  have zkc5 : (⟨#[32]⟩ : ByteArray).size = 1 := rfl
  obtain ⟨c5, Ec5, zc5, rc5⟩ := add_step c4 ⟨#[32]⟩ (by omega)
  obtain ⟨c6, Ec6, zc6, rc6⟩ := add_step c5 (two (y / 100)) (by omega)
  obtain ⟨c7, Ec7, zc7, rc7⟩ := add_step c6 (two y) (by omega)
  have zkc8 : (⟨#[32]⟩ : ByteArray).size = 1 := rfl
  obtain ⟨c8, Ec8, zc8, rc8⟩ := add_step c7 ⟨#[32]⟩ (by omega)
  obtain ⟨c9, Ec9, zc9, rc9⟩ := add_step c8 (two h) (by omega)
  have zkc10 : (⟨#[58]⟩ : ByteArray).size = 1 := rfl
  obtain ⟨c10, Ec10, zc10, rc10⟩ := add_step c9 ⟨#[58]⟩ (by omega)
  obtain ⟨c11, Ec11, zc11, rc11⟩ := add_step c10 (two i) (by omega)
  have zkc12 : (⟨#[58]⟩ : ByteArray).size = 1 := rfl
  obtain ⟨c12, Ec12, zc12, rc12⟩ := add_step c11 ⟨#[58]⟩ (by omega)
  obtain ⟨c13, Ec13, zc13, rc13⟩ := add_step c12 (two s) (by omega)
  have zkc14 : (⟨#[32, 71, 77, 84]⟩ : ByteArray).size = 4 := rfl
  obtain ⟨c14, Ec14, zc14, rc14⟩ := add_step c13 ⟨#[32, 71, 77, 84]⟩ (by omega)
  clear zkc1 zkc3 zkc5 zkc8 zkc10 zkc12 zkc14 zc1 zc2 zc3 zc4 zc5 zc6 zc7 zc8 zc9 zc10 zc11 zc12 zc13 zc14 ztx ztm ztD ztC ztY ztH ztI ztS
  go_enter Tryz.func122, Tryz.ntmps122
  go_wp2_with fail
  refine HAT.mono ?_
  rintro e w1 ⟨rfl, hb1⟩
  obtain ⟨W, hW⟩ : ∃ W, W = w1.alloc (.cells #[.int .i64 y, .int .i64 m, .int .i64 d, .int .i64 h, .int .i64 i, .int .i64 s] 145) := ⟨_, rfl⟩
  have KD : Hid (DateAtB W w1.heap.size y m d h i s) := by subst hW; exact dateAtB_new w1 y m d h i s _
  have KB : Hid (Below w.heap.size w W) := by subst hW; exact hb1.alloc hb1.size _
  have HWW : Hid (W = w1.alloc (.cells #[.int .i64 y, .int .i64 m, .int .i64 d, .int .i64 h, .int .i64 i, .int .i64 s] 145)) := hW
  clear hW hb1 HAT
  go_wp2_with fail
  rw [← HWW.out, hx.out]
  clear HWW
  unfold dayNames at hsd
  unfold monNames at hsm
  generalize (⟨#[83, 117, 110, 77, 111, 110, 84, 117, 101, 87, 101, 100, 84, 104, 117, 70, 114, 105, 83, 97, 116]⟩ : ByteArray) = DN at *
  generalize (⟨#[74, 97, 110, 70, 101, 98, 77, 97, 114, 65, 112, 114, 77, 97, 121, 74, 117, 110, 74, 117, 108, 65, 117, 103, 83, 101, 112, 79, 99, 116, 78, 111, 118, 68, 101, 99]⟩ : ByteArray) = MN at *
  generalize w1.heap.size = B at *
  clear w1
  have q0 := cell_regrown KD.out.c0
  have q1 := cell_regrown KD.out.c1
  have q2 := cell_regrown KD.out.c2
  have q3 := cell_regrown KD.out.c3
  have q4 := cell_regrown KD.out.c4
  have q5 := cell_regrown KD.out.c5
  clear KD
  have cT : ∀ v d' os, 0 ≤ v → v ≤ 9999 → Calls Tryz.prog 147 #[.int .i64 v] (grow (redrawn W d') os) fun e w'' => e = .returned (.string (two v)) ∧ ∃ p : Regrown, w'' = grow (redrawn W p.d) p.os := fun v d' os a b => Calls.regrown_of (HT.out v _ a b)
  refine wp_region_quiet_below (by kernel_rfl) (by kernel_rfl) ?_
  repeat (go_big_quiet_step (first | (go_at_call 147; exact cT _ _ _ (by omega) (by omega))))
  refine wpQuiet_nil ?_
  intro W2 hW2
  have KB2 : Hid (Below w.heap.size w W2) := by
    obtain ⟨⟨d, os⟩, rfl⟩ := hW2
    exact KB.out.trans ((below_regrown W d os).mono KB.out.size)
  clear hW2 cT q0 q1 q2 q3 q4 q5
  go_wp2_with fail
  go_ret
  exact ⟨ret_str (by rw [HF.out, HE.out, Ec14.out, Ec13.out, Ec12.out, Ec11.out, Ec10.out, Ec9.out, Ec8.out, Ec7.out, Ec6.out, Ec5.out, Ec4.out, Ec3.out, Ec2.out, Ec1.out]), KB2.out⟩
end Go.Proofs.YtgfbahjpaaanoaaGreatDoor
/-
  What the model's l1Digits answers: the decimal digits of a number.
-/
namespace Go.Proofs.YtgfbahjpaaanoaaGreatDoor
open Go.ChangeShapes Go.WideShapes Go.ChangeAt Go.RowKit
namespace num
/-- One byte in a slice of its own, as a text. -/
theorem one_byte (c : Int) (x : UInt8) (hx : (x.toNat : Int) = c) (W : World) (B cap : Nat) (hc : W.cell? ⟨B, 0, none⟩ = some (.int .u8 c)) :
    (convert 22 9 (.slice (some ⟨B, 0, none⟩) 1 cap)).run Tryz.prog W = .ok (.string ⟨#[x]⟩) W := by
  have := run_convert_bytes_back (P := Tryz.prog) W 22 9 5 ⟨B, 0, none⟩ cap [x] Tryz.underlying22 Tryz.underlying5 Tryz.underlying9 (fun j hj => by
    obtain rfl : j = 0 := by simp at hj; omega
    simp [Addr.add, hc, hx])
  simpa using this
theorem dig_nat (d : Nat) (h : d < 10) : ((UInt8.ofNat (48 + d)).toNat : Int) = 48 + (d : Int) := by
  rw [UInt8.toNat_ofNat_of_lt' (by show 48 + d < 256; omega)]; omega
end num
end Go.Proofs.YtgfbahjpaaanoaaGreatDoor
/-
  What NumberText and its model answer; the law of NumberText out of them.
-/
namespace Go.Proofs.YtgfbahjpaaanoaaGreatDoor
open Go.ChangeShapes Go.WideShapes Go.ChangeAt Go.RowKit
namespace num
/-- The library's table of powers of ten lies in memory. -/
def PowIs (w : World) : Prop := Lib.TabIs Tryz.prog w "internal/strconv.uint64pow10" .u64 Lib.pow10Tab
theorem powNamed : Tryz.prog.globalNamed "internal/strconv.uint64pow10" = some 4 := by kernel_rfl
theorem PowIs.below {w w' : World} (h : PowIs w) (hb : Below w.heap.size w w') : PowIs w' := by
  unfold PowIs Lib.TabIs at h ⊢
  refine var?_below hb powNamed ?_ h
  unfold World.var? at h
  rw [powNamed] at h
  simp only [Option.bind_some] at h
  cases hh : w.heap[4]? with
  | none => rw [hh] at h; cases h
  | some o => exact (Array.getElem?_eq_some_iff.1 hh).1
def numT (n : Int) : ByteArray := ⟨(Lib.itoa n).toArray⟩
theorem format_lib (n : Int) (h0 : 0 ≤ n) (h1 : n ≤ 1000000000000000) (w : World) (h : PowIs w) :
    Calls Tryz.prog 139 #[.int .i64 n, .int .i64 10] w fun e w' => e = .returned (.string (numT n)) ∧ Below w.heap.size w w' := by
  refine (Any.strconv_FormatInt_10 Tryz.laysM173 n (by omega) (by omega) w h).mono ?_
  rintro e w' ⟨rfl, k, os, rfl⟩
  exact ⟨rfl, Lib.below_grow _ _ (Nat.le_refl _) _ _⟩
end num
end Go.Proofs.YtgfbahjpaaanoaaGreatDoor
/-
  The text of known seconds, on the program's side: its parts.
-/
namespace Go.Proofs.YtgfbahjpaaanoaaGreatDoor
open Go.ChangeShapes Go.WideShapes Go.ChangeAt Go.RowKit Go.Sort
open num
set_option maxHeartbeats 1000000 in
theorem nameAt_day (x : Int) (h0 : 0 ≤ x) (h1 : x < 7) (w : World) :
    Calls Tryz.prog 135 #[.string dayNames, .int .i64 x] w fun e w' => e = .returned (.string (wdT x)) ∧ w' = w := by
  have hs := day_slice x h0 h1
  generalize dayNames = N at *
  generalize wdT x = r at *
  go_enter Tryz.func135, Tryz.ntmps135
  go_wp2_with fail
  go_ret
  exact ⟨rfl, rfl⟩
theorem mon_slice0 (p : Int) (h0 : 0 ≤ p) (h1 : p ≤ 11) (w : World) :
    (Instr.slice 9 (.string monNames) (some (.int .i64 (3 * p))) (some (.int .i64 (3 * p + 3))) none).run Tryz.prog w = .ok (.string (moT (p + 1))) w := by
  have := run_slice_string (P := Tryz.prog) w 9 monNames .i64 .i64 (3 * p) (3 * p + 3) Tryz.underlying9 (by omega) (by omega) (by show (3 * p + 3) ≤ ((36 : Nat) : Int); omega)
  rw [this]
  unfold moT
  rw [show 3 * (p + 1) - 3 = 3 * p by omega, show 3 * (p + 1) = 3 * p + 3 by omega]
set_option maxHeartbeats 1000000 in
theorem nameAt_mon (p : Int) (h0 : 0 ≤ p) (h1 : p ≤ 11) (w : World) :
    Calls Tryz.prog 135 #[.string monNames, .int .i64 p] w fun e w' => e = .returned (.string (moT (p + 1))) ∧ w' = w := by
  have hs := mon_slice0 p h0 h1
  generalize monNames = N at *
  generalize moT (p + 1) = r at *
  go_enter Tryz.func135, Tryz.ntmps135
  go_wp2_with fail
  go_ret
  exact ⟨rfl, rfl⟩
set_option maxHeartbeats 1000000 in
theorem twoDigits_any (n : Int) (h0 : 0 ≤ n) (h1 : n < 100) (w : World) (hp : PowIs w) :
    Calls Tryz.prog 140 #[.int .i64 n] w fun e w' => e = .returned (.string (two n)) ∧ Below w.heap.size w w' := by
  have HL := format_lib n h0 (by omega) w hp
  by_cases c : n < 10
  · have hz := numTx_size h0 (by omega)
    have E : Hid ((⟨#[48]⟩ : ByteArray) ++ numT n = two n) := num_one h0 c
    have hz2 : (numT n).size ≤ 4 := hz
    clear hz
    generalize numT n = q at *
    have hadd := fun w => run_string_add_sum (P := Tryz.prog) (w := w) (⟨#[48]⟩ : ByteArray) q (by have : (⟨#[48]⟩ : ByteArray).size = 1 := rfl; omega)
    rw [E.out] at hadd
    generalize two n = r at *
    go_enter Tryz.func140, Tryz.ntmps140
    go_wp2_with fail
    refine HL.mono ?_
    rintro e w1 ⟨rfl, hb⟩
    have KB : Hid (Below w.heap.size w w1) := hb
    clear hb HL
    go_wp2_with fail
    go_ret
    exact ⟨rfl, KB.out⟩
  · have E : Hid (numT n = two n) := num_two (by omega) h1
    rw [E.out] at HL
    go_enter Tryz.func140, Tryz.ntmps140
    go_wp2_with fail
    refine HL.mono ?_
    rintro e w1 ⟨rfl, hb⟩
    have KB : Hid (Below w.heap.size w w1) := hb
    clear hb HL
    go_wp2_with fail
    go_ret
    exact ⟨rfl, KB.out⟩
def clockT (h i s : Int) : ByteArray := two h ++ ⟨#[58]⟩ ++ two i ++ ⟨#[58]⟩ ++ two s
theorem clockT_size (h i s : Int) : (clockT h i s).size = 8 := by
  unfold clockT
  simp only [ByteArray.size_append, two_size]
  rfl
set_option maxRecDepth 100000 in
set_option maxHeartbeats 4000000 in
theorem clockText_any (y m d h i s : Int) (h0 : 0 ≤ h) (h1 : h < 100) (i0 : 0 ≤ i) (i1 : i < 100) (s0 : 0 ≤ s) (s1 : s < 100) (w : World) (hp : PowIs w) :
    Calls Tryz.prog 141 #[.agg #[.int .i64 y, .int .i64 m, .int .i64 d, .int .i64 h, .int .i64 i, .int .i64 s]] w fun e w' => e = .returned (.string (clockT h i s)) ∧ Below w.heap.size w w' := by
  have HE : Hid (clockT h i s = two h ++ ⟨#[58]⟩ ++ two i ++ ⟨#[58]⟩ ++ two s) := rfl
  have zh := two_size h
  have zi := two_size i
  have zs := two_size s
  have zk : (⟨#[58]⟩ : ByteArray).size = 1 := rfl
  obtain ⟨c1, E1, z1, r1⟩ := add_step (two h) ⟨#[58]⟩ (by omega)
  obtain ⟨c2, E2, z2, r2⟩ := add_step c1 (two i) (by omega)
  obtain ⟨c3, E3, z3, r3⟩ := add_step c2 ⟨#[58]⟩ (by omega)
  obtain ⟨c4, E4, z4, r4⟩ := add_step c3 (two s) (by omega)
  clear z1 z2 z3 z4 zh zi zs zk
  have HP : Hid (PowIs w) := hp
  clear hp
  go_enter Tryz.func141, Tryz.ntmps141
  go_wp2_with fail
  obtain ⟨W, hW⟩ : ∃ W, W = w.alloc (.cells #[.int .i64 y, .int .i64 m, .int .i64 d, .int .i64 h, .int .i64 i, .int .i64 s] 145) := ⟨_, rfl⟩
  rw [← hW]
  have KD : Hid (DateAtB W w.heap.size y m d h i s) := by subst hW; exact dateAtB_new w y m d h i s _
  have KB : Hid (Below w.heap.size w W) := by subst hW; exact (Below.refl _ _).alloc (Nat.le_refl _) _
  have KP : Hid (PowIs W) := HP.out.below KB.out
  clear hW
  have q3 := cell_regrown KD.out.c3
  have q4 := cell_regrown KD.out.c4
  have q5 := cell_regrown KD.out.c5
  clear KD
  have cT : ∀ v d' os, 0 ≤ v → v < 100 → Calls Tryz.prog 140 #[.int .i64 v] (grow (redrawn W d') os) fun e w'' => e = .returned (.string (two v)) ∧ ∃ p : Regrown, w'' = grow (redrawn W p.d) p.os := fun v d' os a b => Calls.regrown_of (twoDigits_any v a b _ (KP.out.below (below_regrown W d' os)))
  refine wp_region_quiet_below (by kernel_rfl) (by kernel_rfl) ?_
  repeat (go_big_quiet_step (first | (go_at_call 140; exact cT _ _ _ (by omega) (by omega))))
  refine wpQuiet_nil ?_
  intro W2 hW2
  have KB2 : Hid (Below w.heap.size w W2) := by
    obtain ⟨⟨d, os⟩, rfl⟩ := hW2
    exact KB.out.trans ((below_regrown W d os).mono KB.out.size)
  clear hW2 cT q3 q4 q5
  go_wp2_with fail
  go_ret
  exact ⟨ret_str (by rw [HE.out, E4.out, E3.out, E2.out, E1.out]), KB2.out⟩
end Go.Proofs.YtgfbahjpaaanoaaGreatDoor
/-
  WeekdayOf, on both sides.
-/
namespace Go.Proofs.YtgfbahjpaaanoaaGreatDoor
open Go.ChangeShapes Go.WideShapes Go.ChangeAt Go.RowKit
def knownB (n : Int) : Bool := decide (0 ≤ n) && decide (n ≤ 253402300799)
theorem knownB_yes {n : Int} (h : knownB n = true) : 0 ≤ n ∧ n ≤ 253402300799 := by simpa [knownB] using h
theorem knownB_of {n : Int} (h0 : 0 ≤ n) (h1 : n ≤ 253402300799) : knownB n = true := by simp [knownB, h0, h1]
theorem knownB_no {n : Int} (h : knownB n = false) : n < 0 ∨ 253402300799 < n := by
  rcases Int.lt_or_le n 0 with k | k
  · exact .inl k
  · rcases Int.lt_or_le 253402300799 n with k2 | k2
    · exact .inr k2
    · rw [knownB_of k k2] at h; cases h
def kC (n : Int) : Int := if knownB n = true then 0 else 3
def wdV (n : Int) : Int := if knownB n = true then (n / 86400 + 4) % 7 else 0
theorem kC_yes {n : Int} (h : knownB n = true) : kC n = 0 := by simp [kC, h]
theorem kC_no {n : Int} (h : knownB n = false) : kC n = 3 := by simp [kC, h]
theorem wdV_yes {n : Int} (h : knownB n = true) : wdV n = (n / 86400 + 4) % 7 := by simp [wdV, h]
theorem wdV_no {n : Int} (h : knownB n = false) : wdV n = 0 := by simp [wdV, h]
set_option maxHeartbeats 400000 in
theorem implKnown_any (n : Int) (w : World) :
    Calls Tryz.prog 136 #[.int .i64 n] w fun e w' => e = .returned (.bool (knownB n)) ∧ w' = w := by
  cases k : knownB n
  · by_cases c : n < 0
    · go_enter Tryz.func136, Tryz.ntmps136
      go_wp2
      go_ret
      exact ⟨rfl, rfl⟩
    · have c2 : 253402300799 < n := by have := knownB_no k; omega
      have d2 : decide (n ≤ 253402300799) = false := by simpa using c2
      go_enter Tryz.func136, Tryz.ntmps136
      go_wp2
      go_ret
      exact ⟨rfl, rfl⟩
  · obtain ⟨h0, h1⟩ := knownB_yes k
    have d2 : decide (n ≤ 253402300799) = true := by simpa using h1
    go_enter Tryz.func136, Tryz.ntmps136
    go_wp2
    go_ret
    exact ⟨rfl, rfl⟩
set_option maxHeartbeats 1000000 in
theorem implWeek_any (n : Int) (w : World) :
    Calls Tryz.prog 138 #[.int .i64 n] w fun e w' => e = .returned (.agg #[.int .i64 (kC n), .int .i64 (wdV n)]) ∧ Below w.heap.size w w' := by
  have H : Hid (∀ w, Calls Tryz.prog 136 #[.int .i64 n] w fun e w' => e = .returned (.bool (knownB n)) ∧ w' = w) := implKnown_any n
  cases hk : knownB n
  · rw [kC_no hk, wdV_no hk]
    rw [hk] at H
    clear hk
    go_enter Tryz.func138, Tryz.ntmps138
    go_wp2_with fail
    refine (H.out _).mono ?_
    rintro e w1 ⟨rfl, rfl⟩
    go_wp2
    exact bodyPost_ret (v := .agg #[.int .i64 3, .int .i64 0]) (by simp [results, Tryz.results138, go_sem]) rfl ⟨rfl, (Below.refl _ _).alloc (Nat.le_refl _) _⟩
  · rw [kC_yes hk, wdV_yes hk]
    rw [hk] at H
    obtain ⟨h0, h1⟩ := knownB_yes hk
    clear hk
    go_enter Tryz.func138, Tryz.ntmps138
    go_wp2_with fail
    refine (H.out _).mono ?_
    rintro e w1 ⟨rfl, rfl⟩
    go_wp2
    exact bodyPost_ret (v := .agg #[.int .i64 0, .int .i64 ((n / 86400 + 4) % 7)]) (by simp [results, Tryz.results138, go_sem]) rfl ⟨rfl, (Below.refl _ _).alloc (Nat.le_refl _) _⟩
end Go.Proofs.YtgfbahjpaaanoaaGreatDoor
/-
  DateAt, on both sides.
-/
namespace Go.Proofs.YtgfbahjpaaanoaaGreatDoor
open Go.ChangeShapes Go.WideShapes Go.ChangeAt Go.RowKit
set_option maxHeartbeats 2000000 in
theorem yearOf_any (D : Int) (w : World) (hD0 : 0 ≤ D) (hD1 : D ≤ 2932896) :
    Calls Tryz.prog 159 #[.int .i64 D] w fun e w' => (∃ y : Int, e = .returned (.int .i64 y) ∧ 1970 ≤ y ∧ y ≤ 9999 ∧ ahead y ≤ D ∧ D < ahead y + ylen y) ∧ w' = w := by
  have HG : Hid (ahead (1970 + D / 366) ≤ D) := ahead_guess hD0
  go_enter Tryz.func159, Tryz.ntmps159
  go_wp2
  go_loop [3] (fun yy => ∃ k : Int, 1970 ≤ k ∧ k ≤ 9999 ∧ ahead k ≤ D ∧ yy = .int .i64 k) (fun yy => (10000 - intOf yy).toNat)
  case atStart =>
    refine ⟨1970 + D / 366, by omega, ?_, HG.out, by go_num⟩
    omega
  case round =>
    obtain ⟨k, hk0, hk1, hk2, rfl⟩ := hrel
    have H := implAhead_any (k + 1)
    have HA : Hid (ahead (k + 1) = ahead k + ylen k) := ahead_succ k
    have HX : Hid (k = 9999 → ahead (k + 1) = 2932897) := fun e => by subst e; exact ahead_end
    obtain ⟨a, hae⟩ : ∃ a, Hid (ahead (k + 1) = a) := ⟨_, rfl⟩
    rw [hae.out] at H HA HX
    go_wp2_with fail
    refine (H _ (by omega) (by omega)).mono ?_
    rintro e w1 ⟨rfl, rfl⟩
    clear H
    by_cases hlt : D < a
    · go_wp2
      go_ret
      exact ⟨⟨k, rfl, hk0, hk1, hk2, by have := HA.out; omega⟩, rfl⟩
    · have hk3 : k < 9999 := by
        rcases Int.lt_or_le k 9999 with z | z
        · exact z
        · have := HX.out (by omega); omega
      have hk4 : Hid (a ≤ D) := by show _ ≤ _; omega
      go_wp2
      go_round
      case rel => exact ⟨k + 1, by omega, by omega, by rw [hae.out]; exact hk4.out, by go_num⟩
      case measure => simp [intOf]; omega
set_option maxHeartbeats 2000000 in
theorem implAt_any (n : Int) (w : World) (h0 : 0 ≤ n) (h1 : n ≤ 253402300799) :
    Calls Tryz.prog 137 #[.int .i64 n] w fun e w' => e = .returned (.agg #[.int .i64 0, .int .i64 (dY n), .int .i64 (dM n), .int .i64 (dD n), .int .i64 (dH n), .int .i64 (dI n), .int .i64 (dS n)]) ∧ Below w.heap.size w w' := by
  have H0 : Hid (∀ w, Calls Tryz.prog 136 #[.int .i64 n] w fun e w' => e = .returned (.bool true) ∧ w' = w) := by
    have := implKnown_any n
    rw [knownB_of h0 h1] at this
    exact this
  have HR : Hid (∀ y m, 1970 ≤ y → ahead y ≤ n / 86400 → 1 ≤ m → m ≤ 12 → msum y m ≤ n / 86400 - ahead y → n / 86400 - ahead y < msum y m + mlen y m →
      Ending.returned (.agg #[.int .i64 0, .int .i64 y, .int .i64 m, .int .i64 (n / 86400 - ahead y - msum y m + 1), .int .i64 (n % 86400 / 3600), .int .i64 (n % 86400 % 3600 / 60), .int .i64 (n % 86400 % 60)]) = .returned (.agg #[.int .i64 0, .int .i64 (dY n), .int .i64 (dM n), .int .i64 (dD n), .int .i64 (dH n), .int .i64 (dI n), .int .i64 (dS n)])) := by
    intro y m a b c d e f
    have := date_at h0 h1 a b c d e f
    have e2 : n % 86400 % 3600 / 60 = n % 86400 / 60 % 60 := by omega
    rw [e2]
    exact ret_date0 this.1 this.2
  obtain ⟨D, hD, hD0, hD1⟩ : ∃ D : Int, n / 86400 = D ∧ 0 ≤ D ∧ D ≤ 2932896 := ⟨_, rfl, by omega, by omega⟩
  obtain ⟨R, hR, hR0, hR1⟩ : ∃ R : Int, n % 86400 = R ∧ 0 ≤ R ∧ R < 86400 := ⟨_, rfl, by omega, by omega⟩
  rw [hD, hR] at HR
  go_enter Tryz.func137, Tryz.ntmps137
  go_wp2_with fail
  refine (H0.out _).mono ?_
  rintro e w1 ⟨rfl, rfl⟩
  go_wp2_with fail
  rw [hD]
  refine (yearOf_any D _ hD0 hD1).mono ?_
  rintro e w1 ⟨⟨y, rfl, hy0, hy1, hy2, hy3⟩, rfl⟩
  have H := implAhead_any y
  have ⟨ha0, ha1⟩ := ahead_bd hy0 (by omega)
  have HE := msum_end y
  have HR2 := HR.out y
  obtain ⟨a, hae⟩ : ∃ a, Hid (ahead y = a) := ⟨_, rfl⟩
  rw [hae.out] at H ha0 ha1 hy2 hy3 HR2
  have ⟨hl0, hl1⟩ := ylen_bd y
  obtain ⟨l, hle⟩ : ∃ a, Hid (ylen y = a) := ⟨_, rfl⟩
  rw [hle.out] at hl0 hl1 HE hy3
  have HR3 : Hid _ := HR2
  clear HR HR2 H0
  go_wp2_with fail
  refine (H _ (by omega) (by omega)).mono ?_
  rintro e w1 ⟨rfl, rfl⟩
  clear H
  go_wp2
  try rw [hD]
  try rw [hR]
  clear hD hR
  go_loop [3, 6] (fun dd mm => ∃ j : Int, 1 ≤ j ∧ j ≤ 12 ∧ msum y j ≤ D - a ∧ mm = .int .i64 j ∧ dd = .int .i64 (D - a - msum y j)) (fun _ mm => (13 - intOf mm).toNat)
  case atStart => exact ⟨1, by omega, by omega, by rw [msum_first]; omega, rfl, by rw [msum_first]; congr 1; omega⟩
  case round =>
    obtain ⟨j, hj0, hj1, hj2, rfl, rfl⟩ := hrel
    have H := implMonth_any y j
    have HS : Hid (msum y (j + 1) = msum y j + mlen y j) := msum_succ y hj0 hj1
    have HY : Hid (j = 12 → msum y (j + 1) = l) := fun e => by subst e; exact HE
    have HQ2 : Hid _ := HR3.out j hy0 hy2 hj0 hj1 hj2
    have hs0 := msum_mono y (a := 1) (b := j) (by omega) (by omega) (by omega)
    rw [msum_first] at hs0
    have ⟨hl2, hl3⟩ := mlen_bd y j
    generalize mlen y j = q at *
    generalize msum y j = b at *
    go_wp2_with fail
    refine (H _ (by omega) (by omega) (by omega) (by omega)).mono ?_
    rintro e w1 ⟨rfl, rfl⟩
    by_cases hlt2 : D - a - b < q
    · clear H
      go_wp2
      exact bodyPost_ret (v := .agg #[.int .i64 0, .int .i64 y, .int .i64 j, .int .i64 (D - a - b + 1), .int .i64 (R / 3600), .int .i64 (R % 3600 / 60), .int .i64 (R % 60)]) (by simp [results, Tryz.results137, go_sem]) rfl ⟨HQ2.out (by omega), (Below.refl _ _).alloc (Nat.le_refl _) _⟩
    · have hj3 : j < 12 := by
        rcases Int.lt_or_le j 12 with z | z
        · exact z
        · have := HY.out (by omega); have := HS.out; omega
      go_wp2_with fail
      refine (H _ (by omega) (by omega) (by omega) (by omega)).mono ?_
      rintro e w1 ⟨rfl, rfl⟩
      clear H
      go_wp2
      go_round
      case rel => exact ⟨j + 1, by omega, by omega, by rw [HS.out]; omega, by go_num, by rw [HS.out]; congr 1; omega⟩
      case measure => simp [intOf]; omega
end Go.Proofs.YtgfbahjpaaanoaaGreatDoor
/-
  The text of known seconds, on the program's side.
-/
namespace Go.Proofs.YtgfbahjpaaanoaaGreatDoor
open Go.ChangeShapes Go.WideShapes Go.ChangeAt Go.RowKit Go.Sort
open num
theorem dfield_date (c y m d h i s : Int) (w : World) : (Instr.field 161 (.agg #[.int .i64 c, .int .i64 y, .int .i64 m, .int .i64 d, .int .i64 h, .int .i64 i, .int .i64 s]) 1).run Tryz.prog w = .ok (.agg #[.int .i64 y, .int .i64 m, .int .i64 d, .int .i64 h, .int .i64 i, .int .i64 s]) w := by kernel_rfl
/-- The room for a text. -/
structure TRoom (w : World) (b : Nat) (c : Int) (t : ByteArray) : Prop where
  c0 : w.cell? ⟨b, 0, none⟩ = some (.int .i64 c)
  c1 : w.cell? ⟨b, 1, none⟩ = some (.string t)
  f0 : w.frozen? ⟨b, 0, none⟩ = false
  f1 : w.frozen? ⟨b, 1, none⟩ = false
theorem TRoom.keep {w w' : World} {b : Nat} {c : Int} {t : ByteArray} (h : TRoom w b c t) (hb : Below w.heap.size w w') : TRoom w' b c t :=
  ⟨by rw [hb.cell (p := ⟨b, 0, none⟩) (block_lt_of_cell h.c0), h.c0], by rw [hb.cell (p := ⟨b, 1, none⟩) (block_lt_of_cell h.c1), h.c1], by rw [hb.frozen (p := ⟨b, 0, none⟩) (block_lt_of_cell h.c0), h.f0], by rw [hb.frozen (p := ⟨b, 1, none⟩) (block_lt_of_cell h.c1), h.f1]⟩
theorem troom_new (w : World) (c : Int) (s : ByteArray) (t : TypeId) : TRoom (w.alloc (.cells #[.int .i64 c, .string s] t)) w.heap.size c s := ⟨by simp, by simp, by simp, by simp⟩
theorem known_true {n : Int} (h0 : 0 ≤ n) (h1 : n ≤ 253402300799) (w : World) : Calls Tryz.prog 136 #[.int .i64 n] w fun e w' => e = .returned (.bool true) ∧ w' = w := by
  have := implKnown_any n w
  rw [knownB_of h0 h1] at this
  exact this
theorem week_known {n : Int} (h0 : 0 ≤ n) (h1 : n ≤ 253402300799) (w : World) : Calls Tryz.prog 138 #[.int .i64 n] w fun e w' => e = .returned (.agg #[.int .i64 0, .int .i64 ((n / 86400 + 4) % 7)]) ∧ Below w.heap.size w w' := by
  have := implWeek_any n w
  rw [kC_yes (knownB_of h0 h1), wdV_yes (knownB_of h0 h1)] at this
  exact this
theorem text_glue (x y m d h i s : Int) : wdT x ++ ⟨#[44, 32]⟩ ++ two d ++ ⟨#[32]⟩ ++ moT m ++ ⟨#[32]⟩ ++ (two (y / 100) ++ two y) ++ ⟨#[32]⟩ ++ clockT h i s ++ ⟨#[32, 71, 77, 84]⟩ = dateText x y m d h i s := by
  unfold dateText clockT
  simp only [ByteArray.append_assoc]
set_option maxRecDepth 100000 in
set_option maxHeartbeats 8000000 in
theorem implFormat_any (n : Int) (w : World) (h0 : 0 ≤ n) (h1 : n ≤ 253402300799) (hp : PowIs w) :
    Calls Tryz.prog 114 #[.int .i64 n] w fun e w' => e = .returned (.agg #[.int .i64 0, .string (fmtT n)]) ∧ Below w.heap.size w w' := by
  have HK := fun w => known_true h0 h1 w
  have HAT := fun w => implAt_any n w h0 h1
  have HW := fun w => week_known h0 h1 w
  have hk := date_ok h0 h1
  obtain ⟨⟨hy0, hy1, hm0, hm1, hd0, hd1⟩, hh0, hh1, hi0, hi1, hs0, hs1⟩ := hk
  have hd2 := (mlen_bd (dY n) (dM n)).2
  have HF : Hid (dateText ((n / 86400 + 4) % 7) (dY n) (dM n) (dD n) (dH n) (dI n) (dS n) = fmtT n) := rfl
  obtain ⟨x, hx, hx0, hx1⟩ : ∃ x : Int, (n / 86400 + 4) % 7 = x ∧ 0 ≤ x ∧ x < 7 := ⟨_, rfl, by omega, by omega⟩
  rw [hx] at HF HW
  have hd3 : dD n ≤ 31 := by omega
  clear hd1 hd2 hx
  generalize dY n = y at *
  generalize dM n = m at *
  generalize dD n = d at *
  generalize dH n = h at *
  generalize dI n = i at *
  generalize dS n = s at *
  generalize fmtT n = R at *
  have HE : Hid (wdT x ++ ⟨#[44, 32]⟩ ++ two d ++ ⟨#[32]⟩ ++ moT m ++ ⟨#[32]⟩ ++ (two (y / 100) ++ two y) ++ ⟨#[32]⟩ ++ clockT h i s ++ ⟨#[32, 71, 77, 84]⟩ = R) := by
    show _ = _
    rw [text_glue, HF.out]
  clear HF
  have HK2 : Hid (∀ w, Calls Tryz.prog 136 #[.int .i64 n] w fun e w' => e = .returned (.bool true) ∧ w' = w) := HK
  have HAT2 : Hid (∀ w, Calls Tryz.prog 137 #[.int .i64 n] w fun e w' => e = .returned (.agg #[.int .i64 0, .int .i64 y, .int .i64 m, .int .i64 d, .int .i64 h, .int .i64 i, .int .i64 s]) ∧ Below w.heap.size w w') := HAT
  have HW2 : Hid (∀ w, Calls Tryz.prog 138 #[.int .i64 n] w fun e w' => e = .returned (.agg #[.int .i64 0, .int .i64 x]) ∧ Below w.heap.size w w') := HW
  have HND : Hid (∀ w, Calls Tryz.prog 135 #[.string dayNames, .int .i64 x] w fun e w' => e = .returned (.string (wdT x)) ∧ w' = w) := nameAt_day x hx0 hx1
  have HNM : Hid (∀ w, Calls Tryz.prog 135 #[.string monNames, .int .i64 (m - 1)] w fun e w' => e = .returned (.string (moT m)) ∧ w' = w) := by
    have := nameAt_mon (m - 1) (by omega) (by omega)
    rw [show m - 1 + 1 = m by omega] at this
    exact this
  have HY : Hid (∀ w, PowIs w → Calls Tryz.prog 139 #[.int .i64 y, .int .i64 10] w fun e w' => e = .returned (.string (two (y / 100) ++ two y)) ∧ Below w.heap.size w w') := by
    intro w hp
    have := format_lib y (by omega) (by omega) w hp
    rw [show numT y = two (y / 100) ++ two y from num_year (by omega) (by omega)] at this
    exact this
  have HTW : Hid (∀ w, PowIs w → Calls Tryz.prog 140 #[.int .i64 d] w fun e w' => e = .returned (.string (two d)) ∧ Below w.heap.size w w') := fun w hp => twoDigits_any d (by omega) (by omega) w hp
  have HCL : Hid (∀ w, PowIs w → Calls Tryz.prog 141 #[.agg #[.int .i64 y, .int .i64 m, .int .i64 d, .int .i64 h, .int .i64 i, .int .i64 s]] w fun e w' => e = .returned (.string (clockT h i s)) ∧ Below w.heap.size w w') := fun w hp => clockText_any y m d h i s (by omega) (by omega) (by omega) (by omega) (by omega) (by omega) w hp
  clear HK HAT HW
  have zx := wdT_size hx0 hx1
  have zm := moT_size hm0 hm1
  have zd := two_size d
  have zy : (two (y / 100) ++ two y).size = 4 := by rw [ByteArray.size_append, two_size, two_size]
  have zc := clockT_size h i s
  generalize wdT x = tx at *
  generalize moT m = tm at *
  generalize two d = td at *
  generalize two (y / 100) ++ two y = ty at *
  generalize clockT h i s = tc at *
  have k1 : (⟨#[44, 32]⟩ : ByteArray).size = 2 := rfl
  have k2 : (⟨#[32]⟩ : ByteArray).size = 1 := rfl
  have k3 : (⟨#[32, 71, 77, 84]⟩ : ByteArray).size = 4 := rfl
  obtain ⟨c1, E1, z1, r1⟩ := add_step tx ⟨#[44, 32]⟩ (by omega)
  obtain ⟨c2, E2, z2, r2⟩ := add_step c1 td (by omega)
  obtain ⟨c3, E3, z3, r3⟩ := add_step c2 ⟨#[32]⟩ (by omega)
  obtain ⟨c4, E4, z4, r4⟩ := add_step c3 tm (by omega)
  obtain ⟨c5, E5, z5, r5⟩ := add_step c4 ⟨#[32]⟩ (by omega)
  obtain ⟨c6, E6, z6, r6⟩ := add_step c5 ty (by omega)
  obtain ⟨c7, E7, z7, r7⟩ := add_step c6 ⟨#[32]⟩ (by omega)
  obtain ⟨c8, E8, z8, r8⟩ := add_step c7 tc (by omega)
  obtain ⟨c9, E9, z9, r9⟩ := add_step c8 ⟨#[32, 71, 77, 84]⟩ (by omega)
  have HR : Hid (c9 = R) := by
    show _ = _
    rw [← HE.out, E9.out, E8.out, E7.out, E6.out, E5.out, E4.out, E3.out, E2.out, E1.out]
  clear z1 z2 z3 z4 z5 z6 z7 z8 z9 zx zm zd zy zc k1 k2 k3 HE E1 E2 E3 E4 E5 E6 E7 E8 E9
  have HP : Hid (PowIs w) := hp
  clear hp
  have hfd := dfield_date
  have hfv := ifield_val
  unfold dayNames at HND
  unfold monNames at HNM
  go_enter Tryz.func114, Tryz.ntmps114
  go_wp2_with fail
  refine (HK2.out _).mono ?_
  rintro e w0 ⟨rfl, rfl⟩
  go_wp2_with fail
  refine (HAT2.out _).mono ?_
  rintro e w1 ⟨rfl, hb1⟩
  have K1 : Hid (Below w.heap.size w w1 ∧ TRoom w1 w.heap.size 0 ⟨#[]⟩) := ⟨((Below.refl _ _).alloc (Nat.le_refl _) _).trans (hb1.mono (by simp)), (troom_new w 0 ⟨#[]⟩ 98).keep hb1⟩
  clear hb1
  go_wp2_with fail
  refine (HW2.out _).mono ?_
  rintro e w2 ⟨rfl, hb2⟩
  have K2 : Hid (Below w.heap.size w w2 ∧ TRoom w2 w.heap.size 0 ⟨#[]⟩ ∧ DateAtB w2 w1.heap.size y m d h i s) := ⟨(K1.out.1.alloc K1.out.1.size _).trans (hb2.mono (by have := K1.out.1.size; simp; omega)), (K1.out.2.keep ((Below.refl _ _).alloc (Nat.le_refl _) _)).keep hb2, (dateAtB_new w1 y m d h i s 145).keep hb2⟩
  have hwl : w.heap.size < w1.heap.size := block_lt_of_cell K1.out.2.c0
  clear hb2 K1
  generalize w1.heap.size = B at *
  clear w1
  go_wp2_with fail
  refine (HND.out _).mono ?_
  rintro e w3 ⟨rfl, rfl⟩
  obtain ⟨c0, cc1, cc2, cc3, cc4, cc5, fr⟩ := K2.out.2.2
  go_wp2_with fail
  refine (HNM.out _).mono ?_
  rintro e w4 ⟨rfl, rfl⟩
  go_wp2_with fail
  refine (HY.out _ (HP.out.below K2.out.1)).mono ?_
  rintro e w5 ⟨rfl, hb5⟩
  have K5 : Hid (Below w.heap.size w w5 ∧ TRoom w5 w.heap.size 0 ⟨#[]⟩ ∧ DateAtB w5 B y m d h i s) := ⟨K2.out.1.trans (hb5.mono K2.out.1.size), K2.out.2.1.keep hb5, K2.out.2.2.keep hb5⟩
  clear hb5 K2 c0 cc1 cc2 cc3 cc4 cc5 fr HK2 HAT2 HW2 HND HNM HY hfd hfv
  obtain ⟨c0, cc1, cc2, cc3, cc4, cc5, fr⟩ := K5.out.2.2
  obtain ⟨t0, t1, u0, u1⟩ := K5.out.2.1
  have hs5 := K5.out.1.size
  have PW : Hid (∀ W, Below w5.heap.size w5 W → PowIs W) := fun W hb => HP.out.below (K5.out.1.trans (hb.mono K5.out.1.size))
  go_wp2_with fail
  go_region_with (first
    | (go_at_call 140; refine (HTW.out _ (PW.out _ ((Below.refl w5.heap.size w5).drew))).mono ?_; rintro e wa ⟨rfl, hba⟩; have BA : Hid (Below w5.heap.size w5 wa) := ((Below.refl w5.heap.size w5).drew).trans hba; clear hba; obtain ⟨a0, a1, a2, a3, a4, a5, af⟩ := K5.out.2.2.keep BA.out; clear af)
    | (go_at_call 141; refine (HCL.out _ (PW.out _ BA.out)).mono ?_; rintro e wb ⟨rfl, hbb⟩; have BB : Hid (Below w5.heap.size w5 wb) := BA.out.trans (hbb.mono BA.out.size); clear hbb; obtain ⟨e0, e1, f0, f1⟩ := K5.out.2.1.keep BB.out))
  all_goals
    (go_wp2_with fail
     obtain ⟨z0, z1⟩ := two_set (v0 := .int .i64 0) (v1 := .string c9) e0 e1
     exact bodyPost_ret (v := .agg #[.int .i64 0, .string c9]) (by simp [results, Tryz.results114, go_sem, z0, z1]) rfl ⟨by rw [HR.out], ((K5.out.1.trans (BB.out.mono K5.out.1.size)).setCell (Nat.le_refl _) _).setCell (Nat.le_refl _) _⟩)
end Go.Proofs.YtgfbahjpaaanoaaGreatDoor
/-
  FormatDate on both sides, and its law.
-/
namespace Go.Proofs.YtgfbahjpaaanoaaGreatDoor
open Go.ChangeShapes Go.WideShapes Go.ChangeAt Go.RowKit
open num
noncomputable def fdT (n : Int) : ByteArray := if knownB n = true then fmtT n else ⟨#[]⟩
theorem fdT_yes {n : Int} (h : knownB n = true) : fdT n = fmtT n := by simp [fdT, h]
theorem fdT_no {n : Int} (h : knownB n = false) : fdT n = ⟨#[]⟩ := by simp [fdT, h]
set_option maxHeartbeats 1000000 in
theorem implFormatDate (n : Int) (w : World) (hp : PowIs w) :
    Calls Tryz.prog 114 #[.int .i64 n] w fun e w' => e = .returned (.agg #[.int .i64 (kC n), .string (fdT n)]) ∧ Below w.heap.size w w' := by
  cases hk : knownB n
  · have H : Hid (∀ w, Calls Tryz.prog 136 #[.int .i64 n] w fun e w' => e = .returned (.bool (knownB n)) ∧ w' = w) := implKnown_any n
    rw [kC_no hk, fdT_no hk]
    rw [hk] at H
    clear hk hp
    go_enter Tryz.func114, Tryz.ntmps114
    go_wp2_with fail
    refine (H.out _).mono ?_
    rintro e w1 ⟨rfl, rfl⟩
    go_wp2
    exact bodyPost_ret (v := .agg #[.int .i64 3, .string ⟨#[]⟩]) (by simp [results, Tryz.results114, go_sem]) rfl ⟨rfl, (Below.refl _ _).alloc (Nat.le_refl _) _⟩
  · rw [kC_yes hk, fdT_yes hk]
    obtain ⟨h0, h1⟩ := knownB_yes hk
    exact implFormat_any n w h0 h1 hp
end Go.Proofs.YtgfbahjpaaanoaaGreatDoor
/-
  DaysOf, on both sides.
-/
namespace Go.Proofs.YtgfbahjpaaanoaaGreatDoor
open Go.ChangeShapes Go.WideShapes Go.ChangeAt Go.RowKit
def doC (y m d : Int) : Int := if dayB y m d = true then 0 else 3
def doV (y m d : Int) : Int := if dayB y m d = true then daysD y m d else 0
theorem doC_yes {y m d : Int} (h : dayB y m d = true) : doC y m d = 0 := by simp [doC, h]
theorem doV_yes {y m d : Int} (h : dayB y m d = true) : doV y m d = daysD y m d := by simp [doV, h]
theorem doC_no {y m d : Int} (h : dayB y m d = false) : doC y m d = 3 := by simp [doC, h]
theorem doV_no {y m d : Int} (h : dayB y m d = false) : doV y m d = 0 := by simp [doV, h]
set_option maxHeartbeats 1000000 in
theorem implDaysOf_any (y m d : Int) (w : World) :
    Calls Tryz.prog 134 #[.int .i64 y, .int .i64 m, .int .i64 d] w fun e w' => e = .returned (.agg #[.int .i64 (doC y m d), .int .i64 (doV y m d)]) ∧ Below w.heap.size w w' := by
  have H : Hid (∀ w, Calls Tryz.prog 156 #[.int .i64 y, .int .i64 m, .int .i64 d] w fun e w' => e = .returned (.bool (dayB y m d)) ∧ w' = w) := implDay_any y m d
  cases hk : dayB y m d
  · rw [doC_no hk, doV_no hk]
    rw [hk] at H
    clear hk
    go_enter Tryz.func134, Tryz.ntmps134
    go_wp2_with fail
    refine (H.out _).mono ?_
    rintro e w1 ⟨rfl, rfl⟩
    go_wp2
    exact bodyPost_ret (v := .agg #[.int .i64 3, .int .i64 0]) (by simp [results, Tryz.results134, go_sem]) rfl ⟨rfl, (Below.refl _ _).alloc (Nat.le_refl _) _⟩
  · rw [doC_yes hk, doV_yes hk]
    rw [hk] at H
    obtain ⟨hy0, hy1, hm0, hm1, hd0, hd1⟩ := dayB_yes hk
    have hd2 : d ≤ 31 := by have := mlen_bd y m; omega
    have HD : Hid (daysD y m d = ahead y + msum y m + d - 1) := rfl
    have H2 : Hid (∀ w, Calls Tryz.prog 157 #[.int .i64 y] w fun e w' => e = .returned (.int .i64 (ahead y)) ∧ w' = w) := fun w => implAhead_any y w (by omega) (by omega)
    have ⟨ha0, ha1⟩ := ahead_bd hy0 (by omega)
    generalize ahead y = a at *
    clear hk hd1
    go_enter Tryz.func134, Tryz.ntmps134
    go_wp2_with fail
    refine (H.out _).mono ?_
    rintro e w1 ⟨rfl, rfl⟩
    go_wp2_with fail
    refine (H2.out _).mono ?_
    rintro e w1 ⟨rfl, rfl⟩
    clear H H2
    go_wp2
    go_loop [7, 8] (fun n x => ∃ j : Int, 1 ≤ j ∧ j ≤ m ∧ x = .int .i64 j ∧ n = .int .i64 (a + msum y j)) (fun _ x => (m - intOf x).toNat)
    case atStart => exact ⟨1, by omega, hm0, rfl, by rw [msum_first]; congr 1; omega⟩
    case round =>
      obtain ⟨j, hj0, hj1, rfl, rfl⟩ := hrel
      have hs0 := msum_mono y (a := 1) (b := j) (by omega) (by omega) (by omega)
      have hs1 := msum_mono y (a := j) (b := 13) (by omega) (by omega) (by omega)
      rw [msum_first] at hs0
      rw [msum_end] at hs1
      have hs2 := (ylen_bd y).2
      have hs3 : msum y j ≤ 366 := by omega
      clear hs1 hs2
      by_cases hlt2 : j < m
      · have H := implMonth_any y j
        have HA : Hid (msum y (j + 1) = msum y j + mlen y j) := msum_succ y (by omega) (by omega)
        have ⟨hl0, hl1⟩ := mlen_bd y j
        generalize mlen y j = l at *
        generalize msum y j = b at *
        go_wp2_with fail
        refine (H _ (by omega) (by omega) (by omega) (by omega)).mono ?_
        rintro e w1 ⟨rfl, rfl⟩
        clear H
        go_wp2
        go_round
        case rel => exact ⟨j + 1, by omega, by omega, by go_num, by rw [HA.out]; congr 1; omega⟩
        case measure => simp [intOf]; omega
      · obtain rfl : j = m := by omega
        generalize msum y j = b at *
        go_wp2
        exact bodyPost_ret (v := .agg #[.int .i64 0, .int .i64 (a + b + d - 1)]) (by simp [results, Tryz.results134, go_sem]) rfl ⟨by rw [HD.out], (Below.refl _ _).alloc (Nat.le_refl _) _⟩
end Go.Proofs.YtgfbahjpaaanoaaGreatDoor
/-
  DateFault and SecondsOf, on both sides.
-/
namespace Go.Proofs.YtgfbahjpaaanoaaGreatDoor
open Go.ChangeShapes Go.WideShapes Go.ChangeAt Go.RowKit
def dfC (y m d h i s : Int) : Int := if dateB y m d h i s = true then 0 else 3
theorem dfC_yes {y m d h i s : Int} (k : dateB y m d h i s = true) : dfC y m d h i s = 0 := by simp [dfC, k]
theorem dfC_no {y m d h i s : Int} (k : dateB y m d h i s = false) : dfC y m d h i s = 3 := by simp [dfC, k]
theorem dfC_day {y m d h i s : Int} (k : dayB y m d = false) : dfC y m d h i s = 3 := by simp [dfC, dateB, k]
theorem dfC_not {y m d h i s : Int} (k : ¬ DateOk y m d h i s) : dfC y m d h i s = 3 := by
  refine dfC_no ?_
  cases e : dateB y m d h i s
  · rfl
  · exact absurd (dateB_yes e) k
set_option maxHeartbeats 1000000 in
theorem specFault_any (y m d h i s : Int) (w : World) :
    Calls Tryz.prog 121 #[.agg #[.int .i64 y, .int .i64 m, .int .i64 d, .int .i64 h, .int .i64 i, .int .i64 s]] w fun e w' => e = .returned (.int .i64 (dfC y m d h i s)) ∧ Below w.heap.size w w' := by
  have H : Hid (∀ w, Calls Tryz.prog 145 #[.int .i64 y, .int .i64 m, .int .i64 d] w fun e w' => e = .returned (.bool (dayB y m d)) ∧ w' = w) := specDay_any y m d
  cases hk : dayB y m d
  · rw [dfC_day hk]
    rw [hk] at H
    clear hk
    go_enter Tryz.func121, Tryz.ntmps121
    go_wp2_with fail
    refine (H.out _).mono ?_
    rintro e w1 ⟨rfl, rfl⟩
    go_wp2
    go_ret
    exact ⟨rfl, (Below.refl _ _).alloc (Nat.le_refl _) _⟩
  have hd := dayB_yes hk
  rw [hk] at H
  clear hk
  by_cases ch : h < 0 ∨ 23 < h
  · rw [dfC_not (fun k => by have := k.h0; have := k.h1; omega)]
    have H1 : Hid (∀ w, Calls Tryz.prog 36 #[.int .i64 h, .int .i64 0, .int .i64 23] w fun e w' => e = .returned (.bool false) ∧ w' = w) := fun w => l1In_no h 0 23 w ch
    clear hd ch
    go_enter Tryz.func121, Tryz.ntmps121
    go_wp2_with fail
    refine (H.out _).mono ?_
    rintro e w1 ⟨rfl, rfl⟩
    go_wp2_with fail
    refine (H1.out _).mono ?_
    rintro e w1 ⟨rfl, rfl⟩
    go_wp2
    go_ret
    exact ⟨rfl, (Below.refl _ _).alloc (Nat.le_refl _) _⟩
  have H1 : Hid (∀ w, Calls Tryz.prog 36 #[.int .i64 h, .int .i64 0, .int .i64 23] w fun e w' => e = .returned (.bool true) ∧ w' = w) := fun w => l1In_yes h 0 23 w (by omega) (by omega)
  by_cases ci : i < 0 ∨ 59 < i
  · rw [dfC_not (fun k => by have := k.i0; have := k.i1; omega)]
    have H2 : Hid (∀ w, Calls Tryz.prog 36 #[.int .i64 i, .int .i64 0, .int .i64 59] w fun e w' => e = .returned (.bool false) ∧ w' = w) := fun w => l1In_no i 0 59 w ci
    clear hd ci ch
    go_enter Tryz.func121, Tryz.ntmps121
    go_wp2_with fail
    refine (H.out _).mono ?_
    rintro e w1 ⟨rfl, rfl⟩
    go_wp2_with fail
    refine (H1.out _).mono ?_
    rintro e w1 ⟨rfl, rfl⟩
    go_wp2_with fail
    refine (H2.out _).mono ?_
    rintro e w1 ⟨rfl, rfl⟩
    go_wp2
    go_ret
    exact ⟨rfl, (Below.refl _ _).alloc (Nat.le_refl _) _⟩
  have H2 : Hid (∀ w, Calls Tryz.prog 36 #[.int .i64 i, .int .i64 0, .int .i64 59] w fun e w' => e = .returned (.bool true) ∧ w' = w) := fun w => l1In_yes i 0 59 w (by omega) (by omega)
  by_cases cs : s < 0 ∨ 59 < s
  · rw [dfC_not (fun k => by have := k.s0; have := k.s1; omega)]
    have H3 : Hid (∀ w, Calls Tryz.prog 36 #[.int .i64 s, .int .i64 0, .int .i64 59] w fun e w' => e = .returned (.bool false) ∧ w' = w) := fun w => l1In_no s 0 59 w cs
    clear hd ci ch cs
    go_enter Tryz.func121, Tryz.ntmps121
    go_wp2_with fail
    refine (H.out _).mono ?_
    rintro e w1 ⟨rfl, rfl⟩
    go_wp2_with fail
    refine (H1.out _).mono ?_
    rintro e w1 ⟨rfl, rfl⟩
    go_wp2_with fail
    refine (H2.out _).mono ?_
    rintro e w1 ⟨rfl, rfl⟩
    go_wp2_with fail
    refine (H3.out _).mono ?_
    rintro e w1 ⟨rfl, rfl⟩
    go_wp2
    go_ret
    exact ⟨rfl, (Below.refl _ _).alloc (Nat.le_refl _) _⟩
  have H3 : Hid (∀ w, Calls Tryz.prog 36 #[.int .i64 s, .int .i64 0, .int .i64 59] w fun e w' => e = .returned (.bool true) ∧ w' = w) := fun w => l1In_yes s 0 59 w (by omega) (by omega)
  rw [dfC_yes (dateB_of ⟨hd, by omega, by omega, by omega, by omega, by omega, by omega⟩)]
  clear hd ci ch cs
  go_enter Tryz.func121, Tryz.ntmps121
  go_wp2_with fail
  refine (H.out _).mono ?_
  rintro e w1 ⟨rfl, rfl⟩
  go_wp2_with fail
  refine (H1.out _).mono ?_
  rintro e w1 ⟨rfl, rfl⟩
  go_wp2_with fail
  refine (H2.out _).mono ?_
  rintro e w1 ⟨rfl, rfl⟩
  go_wp2_with fail
  refine (H3.out _).mono ?_
  rintro e w1 ⟨rfl, rfl⟩
  go_wp2
  go_ret
  exact ⟨rfl, (Below.refl _ _).alloc (Nat.le_refl _) _⟩
set_option maxHeartbeats 2000000 in
theorem implFault_any (y m d h i s : Int) (w : World) :
    Calls Tryz.prog 133 #[.agg #[.int .i64 y, .int .i64 m, .int .i64 d, .int .i64 h, .int .i64 i, .int .i64 s]] w fun e w' => e = .returned (.int .i64 (dfC y m d h i s)) ∧ Below w.heap.size w w' := by
  have H : Hid (∀ w, Calls Tryz.prog 156 #[.int .i64 y, .int .i64 m, .int .i64 d] w fun e w' => e = .returned (.bool (dayB y m d)) ∧ w' = w) := implDay_any y m d
  cases hk : dayB y m d
  · rw [dfC_day hk]
    rw [hk] at H
    clear hk
    go_enter Tryz.func133, Tryz.ntmps133
    go_wp2_with fail
    refine (H.out _).mono ?_
    rintro e w1 ⟨rfl, rfl⟩
    go_wp2
    go_ret
    exact ⟨rfl, (Below.refl _ _).alloc (Nat.le_refl _) _⟩
  have hd := dayB_yes hk
  rw [hk] at H
  clear hk
  have hc : h < 0 ∨ (¬ h < 0 ∧ 23 < h) ∨ (¬ h < 0 ∧ ¬ 23 < h ∧ i < 0) ∨ (¬ h < 0 ∧ ¬ 23 < h ∧ ¬ i < 0 ∧ 59 < i) ∨ (¬ h < 0 ∧ ¬ 23 < h ∧ ¬ i < 0 ∧ ¬ 59 < i ∧ s < 0) ∨ (¬ h < 0 ∧ ¬ 23 < h ∧ ¬ i < 0 ∧ ¬ 59 < i ∧ ¬ s < 0 ∧ 59 < s) ∨ (¬ h < 0 ∧ ¬ 23 < h ∧ ¬ i < 0 ∧ ¬ 59 < i ∧ ¬ s < 0 ∧ ¬ 59 < s) := by omega
  have HF : Hid (¬ (¬ h < 0 ∧ ¬ 23 < h ∧ ¬ i < 0 ∧ ¬ 59 < i ∧ ¬ s < 0 ∧ ¬ 59 < s) → dfC y m d h i s = 3) := fun k => dfC_not (fun k => by have := k.h0; have := k.h1; have := k.i0; have := k.i1; have := k.s0; have := k.s1; omega)
  have HT : Hid ((¬ h < 0 ∧ ¬ 23 < h ∧ ¬ i < 0 ∧ ¬ 59 < i ∧ ¬ s < 0 ∧ ¬ 59 < s) → dfC y m d h i s = 0) := fun k => dfC_yes (dateB_of ⟨hd, by omega, by omega, by omega, by omega, by omega, by omega⟩)
  clear hd
  rcases hc with c | ⟨c1, c⟩ | ⟨c1, c2, c⟩ | ⟨c1, c2, c3, c⟩ | ⟨c1, c2, c3, c4, c⟩ | ⟨c1, c2, c3, c4, c5, c⟩ | ⟨c1, c2, c3, c4, c5, c6⟩
  all_goals
    go_enter Tryz.func133, Tryz.ntmps133
    go_wp2_with fail
    refine (H.out _).mono ?_
    rintro e w1 ⟨rfl, rfl⟩
    go_wp2
    go_ret
    exact ⟨ret_int (by first | rw [HF.out (by omega)] | rw [HT.out (by omega)]), (Below.refl _ _).alloc (Nat.le_refl _) _⟩
end Go.Proofs.YtgfbahjpaaanoaaGreatDoor
