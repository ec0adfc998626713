/-
  What the model's l2Item answers.
-/
import Derived.Test.YtibomkcbopkpkaaDoorReadPlain
import Derived.Test.YtibomkcbopkpkaaDoorWordFns
import Derived.Test.YtibomkcbopkpkaaDoorUnqBase
namespace Go.Proofs.YtibomkcbopkpkaaDoor
open Go.ChangeShapes Go.WideShapes Go.ChangeAt Go.RowKit
/-- An item and whether it is one. -/
def ItemRes (s : ByteArray) (e : Ending) : Prop := ∃ (r : Rec) (b : Bool), e = .returned (.tuple #[.agg #[.string r.name, .bool r.has, .string r.value], .bool b]) ∧ (b = true → readR s = some r) ∧ (b = false → readR s = none)
theorem ItemRes.no {s : ByteArray} (n : ByteArray) (h : Bool) (v : ByteArray) (hr : readR s = none) : ItemRes s (.returned (.tuple #[.agg #[.string n, .bool h, .string v], .bool false])) := ⟨⟨n, h, v⟩, false, rfl, (fun h => by cases h), fun _ => hr⟩
theorem ItemRes.yes {s : ByteArray} {n : ByteArray} {h : Bool} {v : ByteArray} (hr : readR s = some ⟨n, h, v⟩) : ItemRes s (.returned (.tuple #[.agg #[.string n, .bool h, .string v], .bool true])) := ⟨⟨n, h, v⟩, true, rfl, fun _ => hr, (fun h => by cases h)⟩
theorem eqAt_stop (s : ByteArray) (k : Nat) (hk : k < s.size) (hc : (s[k].toNat : Int) = 61) : eqAt (s.data.toList.drop k) = 0 := by rw [drop_at s k hk, eqAt, if_pos hc]
theorem eqAt_on (s : ByteArray) (k : Nat) (hk : k < s.size) (hc : ¬ (s[k].toNat : Int) = 61) : eqAt (s.data.toList.drop k) = 1 + eqAt (s.data.toList.drop (k + 1)) := by rw [drop_at s k hk, eqAt, if_neg hc]
theorem eqAt_end (s : ByteArray) (k : Nat) (hk : ¬ k < s.size) : eqAt (s.data.toList.drop k) = 0 := by rw [List.drop_of_length_le (by have := size_list s; omega)]; rfl
/-- A struct stored whole. -/
theorem three_set {w : World} {B : Nat} {u0 u1 u2 v0 v1 v2 : Value} (p0 : w.cell? ⟨B, 0, none⟩ = some u0) (p1 : w.cell? ⟨B, 1, none⟩ = some u1) (p2 : w.cell? ⟨B, 2, none⟩ = some u2) :
    (((w.setCell ⟨B, 0, none⟩ v0).setCell ⟨B, 1, none⟩ v1).setCell ⟨B, 2, none⟩ v2).cell? ⟨B, 0, none⟩ = some v0 ∧ (((w.setCell ⟨B, 0, none⟩ v0).setCell ⟨B, 1, none⟩ v1).setCell ⟨B, 2, none⟩ v2).cell? ⟨B, 1, none⟩ = some v1 ∧ (((w.setCell ⟨B, 0, none⟩ v0).setCell ⟨B, 1, none⟩ v1).setCell ⟨B, 2, none⟩ v2).cell? ⟨B, 2, none⟩ = some v2 := by
  have n01 : (⟨B, 0, none⟩ : Addr) ≠ ⟨B, 1, none⟩ := fun h => by have := congrArg Addr.off h; simp at this
  have n02 : (⟨B, 0, none⟩ : Addr) ≠ ⟨B, 2, none⟩ := fun h => by have := congrArg Addr.off h; simp at this
  have n12 : (⟨B, 1, none⟩ : Addr) ≠ ⟨B, 2, none⟩ := fun h => by have := congrArg Addr.off h; simp at this
  refine ⟨?_, ?_, ?_⟩
  · rw [World.cell?_setCell_other _ _ _ _ n02.symm, World.cell?_setCell_other _ _ _ _ n01.symm, World.cell?_setCell_same _ _ _ p0]
  · rw [World.cell?_setCell_other _ _ _ _ n12.symm]
    refine World.cell?_setCell_same _ _ _ (u := u1) ?_
    rw [World.cell?_setCell_other _ _ _ _ n01, p1]
  · refine World.cell?_setCell_same _ _ _ (u := u2) ?_
    rw [World.cell?_setCell_other _ _ _ _ n12, World.cell?_setCell_other _ _ _ _ n02, p2]
theorem two_items {w w1 : World} {n v : ByteArray} {t : TypeId} (hb : Below (w.heap.size + 1 + 1) ((w.alloc (.cells #[.string ⟨#[]⟩, .bool false, .string ⟨#[]⟩] t)).alloc (.cells #[.string n, .bool true, .string v] t)) w1) :
    w.heap.size + 1 < w1.heap.size ∧ w1.cell? ⟨w.heap.size, 0, none⟩ = some (.string ⟨#[]⟩) ∧ w1.cell? ⟨w.heap.size, 1, none⟩ = some (.bool false) ∧ w1.cell? ⟨w.heap.size, 2, none⟩ = some (.string ⟨#[]⟩) ∧
    w1.frozen? ⟨w.heap.size, 0, none⟩ = false ∧ w1.frozen? ⟨w.heap.size, 1, none⟩ = false ∧ w1.frozen? ⟨w.heap.size, 2, none⟩ = false ∧
    w1.cell? ⟨w.heap.size + 1, 0, none⟩ = some (.string n) ∧ w1.cell? ⟨w.heap.size + 1, 1, none⟩ = some (.bool true) ∧ w1.cell? ⟨w.heap.size + 1, 2, none⟩ = some (.string v) ∧ w1.frozen? ⟨w.heap.size + 1, 2, none⟩ = false ∧ Below w.heap.size w w1 := by
  have hz := hb.size
  simp only [World.size_alloc] at hz
  have l0 : w.heap.size < w.heap.size + 1 + 1 := by omega
  have l1 : w.heap.size + 1 < w.heap.size + 1 + 1 := by omega
  have k1 : Below w.heap.size w (w.alloc (.cells #[.string ⟨#[]⟩, .bool false, .string ⟨#[]⟩] t)) := (Below.refl _ _).alloc (Nat.le_refl _) _
  have e := World.size_alloc w (.cells #[.string ⟨#[]⟩, .bool false, .string ⟨#[]⟩] t)
  refine ⟨by omega, ?_, ?_, ?_, ?_, ?_, ?_, ?_, ?_, ?_, ?_, (k1.alloc (by rw [e]; omega) _).trans (hb.mono (by omega))⟩
  · rw [hb.cell (p := ⟨w.heap.size, 0, none⟩) l0]; simp
  · rw [hb.cell (p := ⟨w.heap.size, 1, none⟩) l0]; simp
  · rw [hb.cell (p := ⟨w.heap.size, 2, none⟩) l0]; simp
  · rw [hb.frozen (p := ⟨w.heap.size, 0, none⟩) l0]; simp
  · rw [hb.frozen (p := ⟨w.heap.size, 1, none⟩) l0]; simp
  · rw [hb.frozen (p := ⟨w.heap.size, 2, none⟩) l0]; simp
  · rw [hb.cell (p := ⟨w.heap.size + 1, 0, none⟩) l1, ← e]; simp
  · rw [hb.cell (p := ⟨w.heap.size + 1, 1, none⟩) l1, ← e]; simp
  · rw [hb.cell (p := ⟨w.heap.size + 1, 2, none⟩) l1, ← e]; simp
  · rw [hb.frozen (p := ⟨w.heap.size + 1, 2, none⟩) l1, ← e]; simp
theorem item_put {w : World} {B C : Nat} {a0 a1 a2 b0 b1 b2 v : Value} (hn : B ≠ C) (c0 : w.cell? ⟨B, 0, none⟩ = some a0) (c1 : w.cell? ⟨B, 1, none⟩ = some a1) (c2 : w.cell? ⟨B, 2, none⟩ = some a2)
    (f0 : w.frozen? ⟨B, 0, none⟩ = false) (f1 : w.frozen? ⟨B, 1, none⟩ = false) (f2 : w.frozen? ⟨B, 2, none⟩ = false) (d0 : w.cell? ⟨C, 0, none⟩ = some b0) (d1 : w.cell? ⟨C, 1, none⟩ = some b1) (d2 : w.cell? ⟨C, 2, none⟩ = some b2) :
    (w.setCell ⟨C, 2, none⟩ v).cell? ⟨C, 0, none⟩ = some b0 ∧ (w.setCell ⟨C, 2, none⟩ v).cell? ⟨C, 1, none⟩ = some b1 ∧ (w.setCell ⟨C, 2, none⟩ v).cell? ⟨C, 2, none⟩ = some v ∧
    (w.setCell ⟨C, 2, none⟩ v).cell? ⟨B, 0, none⟩ = some a0 ∧ (w.setCell ⟨C, 2, none⟩ v).cell? ⟨B, 1, none⟩ = some a1 ∧ (w.setCell ⟨C, 2, none⟩ v).cell? ⟨B, 2, none⟩ = some a2 ∧
    (w.setCell ⟨C, 2, none⟩ v).frozen? ⟨B, 0, none⟩ = false ∧ (w.setCell ⟨C, 2, none⟩ v).frozen? ⟨B, 1, none⟩ = false ∧ (w.setCell ⟨C, 2, none⟩ v).frozen? ⟨B, 2, none⟩ = false := by
  have nb : ∀ i j, (⟨C, i, none⟩ : Addr) ≠ ⟨B, j, none⟩ := fun i j h => hn (congrArg Addr.block h).symm
  have n0 : (⟨C, 2, none⟩ : Addr) ≠ ⟨C, 0, none⟩ := fun h => by have := congrArg Addr.off h; simp at this
  have n1 : (⟨C, 2, none⟩ : Addr) ≠ ⟨C, 1, none⟩ := fun h => by have := congrArg Addr.off h; simp at this
  refine ⟨?_, ?_, World.cell?_setCell_same _ _ _ d2, ?_, ?_, ?_, ?_, ?_, ?_⟩
  · rw [World.cell?_setCell_other _ _ _ _ n0, d0]
  · rw [World.cell?_setCell_other _ _ _ _ n1, d1]
  · rw [World.cell?_setCell_other _ _ _ _ (nb 2 0), c0]
  · rw [World.cell?_setCell_other _ _ _ _ (nb 2 1), c1]
  · rw [World.cell?_setCell_other _ _ _ _ (nb 2 2), c2]
  · rw [World.frozen?_setCell]; exact f0
  · rw [World.frozen?_setCell]; exact f1
  · rw [World.frozen?_setCell]; exact f2
set_option maxRecDepth 100000 in
set_option maxHeartbeats 4000000 in
theorem l2Item_any (s : ByteArray) (w : World) (hs : s.size ≤ 1000) :
    Calls Tryd.prog 128 #[.string s] w fun e w' => ItemRes s e ∧ Below w.heap.size w w' := by
  go_enter Tryd.func128, Tryd.ntmps128
  go_wp2_with fail
  go_loop [4] (fun i => ∃ k : Nat, k ≤ s.size ∧ i = .int .i64 k ∧ eqAt s.data.toList = k + eqAt (s.data.toList.drop k)) (fun i => s.size - (intOf i).toNat)
  case atStart => exact ⟨0, Nat.zero_le _, rfl, by simp⟩
  case round =>
    obtain ⟨k, hk, rfl, he⟩ := hrel
    have HE : Hid (eqAt s.data.toList = k + eqAt (s.data.toList.drop k)) := he
    clear he
    by_cases hgo : k < s.size ∧ ¬ ∃ h : k < s.size, (s[k].toNat : Int) = 61
    · obtain ⟨hlt, hc⟩ := hgo
      have hc2 : ¬ (s[k].toNat : Int) = 61 := fun h => hc ⟨hlt, h⟩
      have HX : Hid (eqAt s.data.toList = (k + 1) + eqAt (s.data.toList.drop (k + 1))) := by
        show _ = _
        rw [HE.out, eqAt_on s k hlt hc2]; omega
      have e1 : ((s[k].toNat : Int) != 61) = true := by simpa using hc2
      have g : (k : Int) < s.size := by omega
      clear HE hc hc2
      go_wp2_with fail
      go_round
      case rel => exact ⟨k + 1, by omega, by go_num, HX.out⟩
      case measure => simp [intOf]; omega
    · have HK : Hid (eqAt s.data.toList = k) := by
        show _ = _
        rw [HE.out]
        by_cases hlt : k < s.size
        · by_cases hc : (s[k].toNat : Int) = 61
          · rw [eqAt_stop s k hlt hc]; omega
          · exact absurd ⟨hlt, fun ⟨_, h⟩ => hc h⟩ hgo
        · rw [eqAt_end s k hlt]; omega
      have R1 := @read_noname s
      have R2 := @read_bare s
      have R3 := @read_word s
      have R4 := @read_quote s
      have R5 := @read_bad s
      rw [HK.out] at R1 R2 R3 R4 R5
      have g1 : (0 : Int) ≤ k := by omega
      have g2 : (k : Int) ≤ s.size := by omega
      have hxz : (s.extract (k + 1) s.size).size ≤ 1000 := by simp; omega
      have HStop : Hid (k < s.size → ∃ h : k < s.size, (s[k].toNat : Int) = 61) := fun h => by
        by_cases hc : (s[k].toNat : Int) = 61
        · exact ⟨h, hc⟩
        · exact absurd ⟨h, fun ⟨_, h⟩ => hc h⟩ hgo
      clear hgo HE
      generalize hnm : s.extract 0 k = nm at *
      have HNM : Hid (s.extract 0 k = nm) := hnm
      clear hnm
      by_cases hlt : k < s.size
      · obtain ⟨_, hc⟩ := HStop.out hlt
        have e1 : ((s[k].toNat : Int) != 61) = false := by simpa using hc
        have e2 : ((k : Int) == (s.size : Int)) = false := by simp; omega
        have g3 : (k : Int) < s.size := by omega
        have hks : k ≠ s.size := by omega
        generalize hrs : s.extract (k + 1) s.size = rs at *
        have HRS : Hid (s.extract (k + 1) s.size = rs) := hrs
        clear hrs HStop hc HK R2
        cases hw : wordS nm
        · have HR : Hid (readR s = none) := R1 hw
          have HW : Hid (wordS nm = false) := hw
          clear R1 R3 R4 R5 hw
          go_wp2_with fail
          rw [HNM.out]
          refine (specIsWord_any nm _).mono ?_
          rintro e w1 ⟨rfl, rfl⟩
          rw [HW.out]
          go_wp2_with fail
          exact bodyPost_ret (v := .tuple #[.agg #[.string ⟨#[]⟩, .bool false, .string ⟨#[]⟩], .bool false]) (by simp [results, Tryd.results128, go_sem]) rfl ⟨ItemRes.no _ _ _ HR.out, (Below.refl _ _).alloc (Nat.le_refl _) _⟩
        · have HW : Hid (wordS nm = true) := hw
          cases hv : wordS rs
          · have HV : Hid (wordS rs = false) := hv
            have HU : Hid ((unqB rs = true → readR s = some ⟨nm, true, unqS rs⟩) ∧ (unqB rs = false → readR s = none)) := ⟨R4 hw hks hv, R5 hw hks hv⟩
            clear R1 R3 R4 R5 hw hv
            go_wp2_with fail
            rw [HNM.out]
            refine (specIsWord_any nm _).mono ?_
            rintro e w1 ⟨rfl, rfl⟩
            rw [HW.out]
            go_wp2_with fail
            rw [HNM.out, HRS.out]
            refine (specIsWord_any rs _).mono ?_
            rintro e w1 ⟨rfl, rfl⟩
            rw [HV.out]
            go_wp2_with fail
            refine (l2Unquote_any rs _ (by omega)).mono ?_
            rintro e w1 ⟨rfl, hb1⟩
            simp only [World.size_alloc] at hb1
            obtain ⟨hz1, c0, c1, c2, f0, f1, f2, d0, d1, d2, d3, kb⟩ := two_items hb1
            cases hub : unqB rs
            · have HR : Hid (readR s = none) := HU.out.2 hub
              clear HU hub hb1
              generalize unqS rs = uv at *
              obtain ⟨x0, x1, x2, y0, y1, y2, z0, z1, z2⟩ := item_put (v := .string uv) (by omega : w.heap.size ≠ w.heap.size + 1) c0 c1 c2 f0 f1 f2 d0 d1 d2
              obtain ⟨r0, r1, r2⟩ := three_set (v0 := .string nm) (v1 := .bool true) (v2 := .string uv) y0 y1 y2
              go_wp2_with fail
              exact bodyPost_ret (v := .tuple #[.agg #[.string nm, .bool true, .string uv], .bool false]) (by simp [results, Tryd.results128, go_sem, r0, r1, r2]) rfl ⟨ItemRes.no _ _ _ HR.out, (((kb.setCell (by simp) _).setCell (Nat.le_refl _) _).setCell (Nat.le_refl _) _).setCell (Nat.le_refl _) _⟩
            · have HR : Hid (readR s = some ⟨nm, true, unqS rs⟩) := HU.out.1 hub
              clear HU hub hb1
              generalize unqS rs = uv at *
              obtain ⟨x0, x1, x2, y0, y1, y2, z0, z1, z2⟩ := item_put (v := .string uv) (by omega : w.heap.size ≠ w.heap.size + 1) c0 c1 c2 f0 f1 f2 d0 d1 d2
              obtain ⟨r0, r1, r2⟩ := three_set (v0 := .string nm) (v1 := .bool true) (v2 := .string uv) y0 y1 y2
              go_wp2_with fail
              exact bodyPost_ret (v := .tuple #[.agg #[.string nm, .bool true, .string uv], .bool true]) (by simp [results, Tryd.results128, go_sem, r0, r1, r2]) rfl ⟨ItemRes.yes HR.out, (((kb.setCell (by simp) _).setCell (Nat.le_refl _) _).setCell (Nat.le_refl _) _).setCell (Nat.le_refl _) _⟩
          · have HV : Hid (wordS rs = true) := hv
            have HR : Hid (readR s = some ⟨nm, true, rs⟩) := R3 hw hks hv
            clear R1 R3 R4 R5 hw hv
            go_wp2_with fail
            rw [HNM.out]
            refine (specIsWord_any nm _).mono ?_
            rintro e w1 ⟨rfl, rfl⟩
            rw [HW.out]
            go_wp2_with fail
            rw [HNM.out, HRS.out]
            refine (specIsWord_any rs _).mono ?_
            rintro e w1 ⟨rfl, rfl⟩
            rw [HV.out]
            go_wp2_with fail
            exact bodyPost_ret (v := .tuple #[.agg #[.string nm, .bool true, .string rs], .bool true]) (by simp [results, Tryd.results128, go_sem]) rfl ⟨ItemRes.yes HR.out, ((Below.refl _ _).alloc (Nat.le_refl _) _).alloc (by simp) _⟩
      · have hks : k = s.size := by omega
        have g3 : ¬ (k : Int) < s.size := by omega
        have e2 : ((k : Int) == (s.size : Int)) = true := by simp; omega
        obtain rfl : s = nm := by
          rw [← HNM.out, hks]
          exact ByteArray.extract_zero_size.symm
        clear HStop HK R3 R4 R5 HNM
        cases hw : wordS s
        · have HR : Hid (readR s = none) := R1 hw
          have HW : Hid (wordS s = false) := hw
          clear R1 R2 hw
          go_wp2_with fail
          refine (specIsWord_any s _).mono ?_
          rintro e w1 ⟨rfl, rfl⟩
          rw [HW.out]
          go_wp2_with fail
          exact bodyPost_ret (v := .tuple #[.agg #[.string ⟨#[]⟩, .bool false, .string ⟨#[]⟩], .bool false]) (by simp [results, Tryd.results128, go_sem]) rfl ⟨ItemRes.no _ _ _ HR.out, (Below.refl _ _).alloc (Nat.le_refl _) _⟩
        · have HR : Hid (readR s = some ⟨s, false, ⟨#[]⟩⟩) := R2 hw hks
          have HW : Hid (wordS s = true) := hw
          clear R1 R2 hw
          go_wp2_with fail
          refine (specIsWord_any s _).mono ?_
          rintro e w1 ⟨rfl, rfl⟩
          rw [HW.out]
          go_wp2_with fail
          exact bodyPost_ret (v := .tuple #[.agg #[.string s, .bool false, .string ⟨#[]⟩], .bool true]) (by simp [results, Tryd.results128, go_sem]) rfl ⟨ItemRes.yes HR.out, (Below.refl _ _).alloc (Nat.le_refl _) _⟩
end Go.Proofs.YtibomkcbopkpkaaDoor
