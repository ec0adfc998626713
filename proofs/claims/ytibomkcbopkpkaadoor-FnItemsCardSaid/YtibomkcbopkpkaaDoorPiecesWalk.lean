/-
  What the model's l2Pieces answers: the walk.
-/
import Derived.Test.YtibomkcbopkpkaaDoorPiecesSpec
namespace Go.Proofs.YtibomkcbopkpkaaDoor
open Go.ChangeShapes Go.WideShapes Go.ChangeAt Go.RowKit
def PcsRes (s : ByteArray) (base : Nat) (e : Ending) (w : World) : Prop := ∃ g c, e = .returned (.slice (some ⟨g, 0, none⟩) (pcs false [] s.data.toList).length c) ∧ OwnS w base (.slice (some ⟨g, 0, none⟩) (pcs false [] s.data.toList).length c) ((pcs false [] s.data.toList).map mkB)
theorem PcsRes.mk {s : ByteArray} {base : Nat} {w : World} {v : Value} {L : List ByteArray} (h : (pcs false [] s.data.toList).map mkB = L) (ho : OwnS w base v L) (hn : L ≠ []) : PcsRes s base (.returned v) w := by
  obtain ⟨g, c, e, _⟩ := ho.at hn
  have hl : L.length = (pcs false [] s.data.toList).length := by rw [← h, List.length_map]
  rw [hl] at e
  exact ⟨g, c, by rw [e], by rw [h, ← e]; exact ho⟩
theorem mk_snoc (O : List (List UInt8)) (p : List UInt8) : (O ++ [p]).map mkB = O.map mkB ++ [mkB p] := by simp
set_option maxRecDepth 100000 in
set_option maxHeartbeats 8000000 in
theorem pieces_any (s : ByteArray) (w : World) (hs : s.size ≤ 1000) :
    Calls Tryd.prog 127 #[.string s] w fun e w' => PcsRes s w.heap.size e w' ∧ Below w.heap.size w w' := by
  go_enter Tryd.func127, Tryd.ntmps127
  go_wp2_with fail
  go_loopw [3, 4, 5, 6] (fun v fv iv kv wr => ∃ (k f : Nat) (ins : Bool) (O : List (List UInt8)), kv = .int .i64 k ∧ fv = .int .i64 f ∧ iv = .bool ins ∧ O.length ≤ k ∧ OwnS wr w.heap.size v (O.map mkB) ∧ PcAt s O ins f k ∧ Below w.heap.size w wr) (fun _ _ _ kv _ => s.size + 1 - (intOf kv).toNat)
  case atStart => exact ⟨0, 0, false, [], rfl, rfl, rfl, Nat.zero_le _, OwnS.made0 w w.heap.size (Nat.le_refl _), .inl ⟨Nat.zero_le _, Nat.zero_le _, rfl⟩, (Below.refl _ _).alloc (Nat.le_refl _) _⟩
  case round =>
    obtain ⟨k, f, ins, O, rfl, rfl, rfl, hO, hown, hpc, hb⟩ := hrel
    have HO : Hid (OwnS wr w.heap.size u3 (O.map mkB)) := hown
    have HP : Hid (PcAt s O ins f k) := hpc
    have hz := hb.size
    clear hown hpc
    by_cases hlt : k < s.size
    · have hfk := (HP.out.lt hlt).1
      have g : (k : Int) < s.size := by omega
      by_cases c0 : ins = true ∧ (s[k].toNat : Int) = 92
      · obtain ⟨rfl, c0⟩ := c0
        have HQ : Hid (PcAt s O true f (k + 2)) := HP.out.esc hlt c0
        have e0 : ((s[k].toNat : Int) == 92) = true := by simpa using c0
        clear HP c0
        go_wp2_with fail
        go_roundw
        case rel => exact ⟨k + 2, f, true, O, by go_num, rfl, rfl, by omega, HO.out, HQ.out, hb⟩
        case measure => simp [intOf]; omega
      · by_cases c1 : (s[k].toNat : Int) = 34
        · have HQ : Hid (PcAt s O (!ins) f (k + 1)) := HP.out.quote hlt c1
          have e1 : ((s[k].toNat : Int) == 34) = true := by simpa using c1
          have e0 : ((s[k].toNat : Int) == 92) = false := by simp; omega
          clear HP c0 c1
          cases ins
          · go_wp2_with fail
            go_roundw
            case rel => exact ⟨k + 1, f, true, O, by go_num, rfl, rfl, by omega, HO.out, HQ.out, hb⟩
            case measure => simp [intOf]; omega
          · go_wp2_with fail
            go_roundw
            case rel => exact ⟨k + 1, f, false, O, by go_num, rfl, rfl, by omega, HO.out, HQ.out, hb⟩
            case measure => simp [intOf]; omega
        · have e1 : ((s[k].toNat : Int) == 34) = false := by simpa using c1
          by_cases c2 : (s[k].toNat : Int) = 44 ∧ ins = false
          · obtain ⟨c2, rfl⟩ := c2
            have HQ : Hid (PcAt s (O ++ [(s.data.toList.drop f).take (k - f)]) false (k + 1) (k + 1)) := HP.out.comma hlt c2
            have HX : Hid (s.extract f k = mkB ((s.data.toList.drop f).take (k - f))) := ext_mk s f k
            have HM := mk_snoc O ((s.data.toList.drop f).take (k - f))
            have e2 : ((s[k].toNat : Int) == 44) = true := by simpa using c2
            have hOl : (O.map mkB).length ≤ 1000 := by rw [List.length_map]; omega
            have gf0 : (0 : Int) ≤ f := by omega
            have gf : (f : Int) ≤ k := by omega
            have gk : (k : Int) ≤ s.size := by omega
            clear HP c0 c1 c2
            generalize (s.data.toList.drop f).take (k - f) = pc at *
            generalize O.map mkB = L at *
            go_wp2_with (at_builtin; refine wpList_append_str _ rfl (.tmp 40) (.tmp 45) rfl w.heap.size _ L (s.extract f k) rfl rfl HO.out (by omega) hz ?_; intro v2 w2 HO2 hb2 hz2)
            go_roundw
            case rel => exact ⟨k + 1, k + 1, false, O ++ [pc], by go_num, by go_num, rfl, by simp; omega, by rw [HM, ← HX.out]; exact HO2, HQ.out, hb.trans hb2⟩
            case measure => simp [intOf]; omega
          · have HQ : Hid (PcAt s O ins f (k + 1)) := HP.out.on hlt c0 c1 c2
            cases ins
            · have e2 : ((s[k].toNat : Int) == 44) = false := by
                have n2 : ¬ (s[k].toNat : Int) = 44 := fun h => c2 ⟨h, rfl⟩
                simpa using n2
              clear HP c0 c1 c2
              go_wp2_with fail
              go_roundw
              case rel => exact ⟨k + 1, f, false, O, by go_num, rfl, rfl, by omega, HO.out, HQ.out, hb⟩
              case measure => simp [intOf]; omega
            · have e0 : ((s[k].toNat : Int) == 92) = false := by
                have n2 : ¬ (s[k].toNat : Int) = 92 := fun h => c0 ⟨rfl, h⟩
                simpa using n2
              clear HP c0 c1 c2
              by_cases c3 : (s[k].toNat : Int) = 44
              · have e2 : ((s[k].toNat : Int) == 44) = true := by simpa using c3
                go_wp2_with fail
                go_roundw
                case rel => exact ⟨k + 1, f, true, O, by go_num, rfl, rfl, by omega, HO.out, HQ.out, hb⟩
                case measure => simp [intOf]; omega
              · have e2 : ((s[k].toNat : Int) == 44) = false := by simpa using c3
                go_wp2_with fail
                go_roundw
                case rel => exact ⟨k + 1, f, true, O, by go_num, rfl, rfl, by omega, HO.out, HQ.out, hb⟩
                case measure => simp [intOf]; omega
    · obtain ⟨hf, hd⟩ := HP.out.done hlt
      have HX : Hid (s.extract f s.size = mkB (s.data.toList.drop f)) := by
        show _ = _
        rw [ext_mk, cur_all s f s.size (Nat.le_refl _)]
      have hkm : k ≤ 1001 := by rcases HP.out with h | h <;> omega
      have HM : Hid ((pcs false [] s.data.toList).map mkB = O.map mkB ++ [mkB (s.data.toList.drop f)]) := by
        show _ = _
        rw [hd, mk_snoc]
      have hOl : (O.map mkB).length ≤ 1001 := by rw [List.length_map]; omega
      have gf0 : (0 : Int) ≤ f := by omega
      have gf : (f : Int) ≤ s.size := by omega
      have g : ¬ (k : Int) < s.size := by omega
      clear HP hd
      generalize s.data.toList.drop f = pc at *
      generalize O.map mkB = L at *
      go_wp2_with (at_builtin; refine wpList_append_str _ rfl (.tmp 49) (.tmp 53) rfl w.heap.size _ L (s.extract f s.size) rfl rfl HO.out (by omega) hz ?_; intro v2 w2 HO2 hb2 hz2)
      go_ret
      rw [HX.out] at HO2
      exact ⟨PcsRes.mk HM.out HO2 (by simp), hb.trans hb2⟩
end Go.Proofs.YtibomkcbopkpkaaDoor
