/-
  What JoinHeader and its model answer.
-/
import Derived.Test.YtbandckkgdnlpaaDoorHDropFns
namespace Go.Proofs.YtbandckkgdnlpaaDoor
open Go.ChangeShapes Go.WideShapes Go.ChangeAt Go.RowKit Go.Sort
def anyV (vs : List ByteArray) : Bool := !vs.isEmpty
theorem anyV_snoc (vs : List ByteArray) (v : ByteArray) : anyV (vs ++ [v]) = true := by simp [anyV]
theorem hret_sb {a b : ByteArray} {c d : Bool} (h1 : a = b) (h2 : c = d) : Ending.returned (.tuple #[.string a, .bool c]) = .returned (.tuple #[.string b, .bool d]) := by rw [h1, h2]
set_option maxRecDepth 100000 in
set_option maxHeartbeats 8000000 in
theorem l4Join_any (w : World) (a : Option Addr) (cap : Nat) (l : List Hdr) (name : ByteArray) (h20 : l.length ≤ 20) (hz : ∀ (i : Nat) r, l[i]? = some r → r.name.size ≤ 64 ∧ r.value.size ≤ 200) (hnm : name.size ≤ 64) (hi : HdsIn w a l) :
    Calls Tryd.prog 53 #[.slice a l.length cap, .string name] w fun e w' => e = .returned (.tuple #[.string ⟨(hjoinL (valsOf (lowS name) l)).toArray⟩, .bool (anyV (valsOf (lowS name) l))]) ∧ Below w.heap.size w w' := by
  have HI : Hid (HdsIn w a l) := hi
  have HZ : Hid (∀ (i : Nat) r, l[i]? = some r → r.name.size ≤ 64 ∧ r.value.size ≤ 200) := hz
  clear hi hz
  generalize hn : l.length = n at *
  have HN : Hid (l.length = n) := hn
  clear hn
  go_enter Tryd.func53, Tryd.ntmps53
  go_wp2_with fail
  go_loopw [6, 7, 8] (fun v f i wr => ∃ (k : Nat) (o : ByteArray) (bf : Bool), k ≤ n ∧ i = .int .i64 k ∧ v = .string o ∧ f = .bool bf ∧ o.data.toList = hjoinL (valsOf (lowS name) (l.take k)) ∧ bf = anyV (valsOf (lowS name) (l.take k)) ∧ o.size ≤ k * 202 ∧ Below w.heap.size w wr) (fun _ _ i _ => n - (intOf i).toNat)
  case atStart => exact ⟨0, ⟨#[]⟩, false, Nat.zero_le _, rfl, rfl, rfl, rfl, rfl, Nat.zero_le _, Below.refl _ _⟩
  case round =>
    obtain ⟨k, o, bf, hk, rfl, rfl, rfl, ho, hbf, hos, hb⟩ := hrel
    have HO : Hid (o.data.toList = hjoinL (valsOf (lowS name) (l.take k))) := ho
    have HBF : Hid (bf = anyV (valsOf (lowS name) (l.take k))) := hbf
    clear ho hbf
    by_cases hlt : k < n
    · obtain ⟨r, hr⟩ : ∃ r, l[k]? = some r := ⟨l[k]'(by have := HN.out; omega), List.getElem?_eq_getElem _⟩
      obtain ⟨b, off, rfl, hat⟩ := HI.out.ok hr
      obtain ⟨p1, p3⟩ := (hat.keep hb) k r hr
      obtain ⟨z1, z2⟩ := HZ.out k r hr
      have HK : Hid (l.take (k + 1) = l.take k ++ [r]) := take_hdr hr
      have gk : (k : Int) < n := by omega
      clear hr hat HI HZ
      have KY := @valsOf_yes (lowS name) r (l.take k)
      have KN := @valsOf_no (lowS name) r (l.take k)
      obtain ⟨rn, rv⟩ := r
      simp only at p1 p3 z1 z2 KY KN
      have SA := fun w => l4Alike_any rn name w (by omega) (by omega)
      by_cases he : lowS rn = lowS name
      · have HX : Hid (valsOf (lowS name) (l.take (k + 1)) = valsOf (lowS name) (l.take k) ++ [rv]) := by show _ = _; rw [HK.out]; exact KY he
        have HSA : Hid (∀ w, Calls Tryd.prog 50 #[.string rn, .string name] w fun e w' => e = .returned (.bool true) ∧ Below w.heap.size w w') := by
          rw [show decide (lowS rn = lowS name) = true from by simpa using he] at SA
          exact SA
        have HY : Hid (anyV (valsOf (lowS name) (l.take (k + 1))) = true) := by show _ = _; rw [HX.out]; exact anyV_snoc _ _
        clear SA KY KN HK he
        cases bf
        · have HV : Hid (valsOf (lowS name) (l.take k) = []) := by
            show _ = _
            have := HBF.out
            simpa [anyV] using this.symm
          have HT : Hid ((o ++ rv : ByteArray).data.toList = hjoinL (valsOf (lowS name) (l.take (k + 1)))) := by
            show _ = _
            rw [HX.out, hjoinL_snoc, happ_list, HO.out, if_pos HV.out, List.append_nil]
          have HU : Hid ((o ++ rv : ByteArray).size ≤ (k + 1) * 202) := by
            show _ ≤ _
            rw [ByteArray.size_append]; omega
          have hoz : o.size ≤ 5000 := by omega
          clear HX HV HO HBF
          go_wp2_with fail
          refine (HSA.out _).mono ?_
          rintro e w2 ⟨rfl, hb2⟩
          have HB2 : Hid (Below w.heap.size w w2) := hb.trans (hb2.mono hb.size)
          have p1 := hkeep hb2 p1
          have p3 := hkeep hb2 p3
          clear hb2 hb
          go_wp2_with fail
          go_roundw
          case rel => exact ⟨k + 1, o ++ rv, true, by omega, by go_num, rfl, rfl, HT.out, HY.out.symm, HU.out, HB2.out⟩
          case measure => simp [intOf]; omega
        · have HV : Hid (¬ valsOf (lowS name) (l.take k) = []) := by
            have := HBF.out
            intro e
            rw [e] at this
            cases this
          have HT : Hid ((o ++ ⟨#[44, 32]⟩ ++ rv : ByteArray).data.toList = hjoinL (valsOf (lowS name) (l.take (k + 1)))) := by
            show _ = _
            rw [HX.out, hjoinL_snoc, happ_list, happ_list, HO.out, if_neg HV.out]
          have HU : Hid ((o ++ ⟨#[44, 32]⟩ ++ rv : ByteArray).size ≤ (k + 1) * 202) := by
            show _ ≤ _
            rw [ByteArray.size_append, ByteArray.size_append, show (⟨#[44, 32]⟩ : ByteArray).size = 2 from rfl]; omega
          have hoz : o.size ≤ 5000 := by omega
          clear HX HV HO HBF
          go_wp2_with fail
          refine (HSA.out _).mono ?_
          rintro e w2 ⟨rfl, hb2⟩
          have HB2 : Hid (Below w.heap.size w w2) := hb.trans (hb2.mono hb.size)
          have p1 := hkeep hb2 p1
          have p3 := hkeep hb2 p3
          clear hb2 hb
          go_wp2_with fail
          go_roundw
          case rel => exact ⟨k + 1, o ++ ⟨#[44, 32]⟩ ++ rv, true, by omega, by go_num, rfl, rfl, HT.out, HY.out.symm, HU.out, HB2.out⟩
          case measure => simp [intOf]; omega
      · have HX : Hid (valsOf (lowS name) (l.take (k + 1)) = valsOf (lowS name) (l.take k)) := by show _ = _; rw [HK.out]; exact KN he
        have HSA : Hid (∀ w, Calls Tryd.prog 50 #[.string rn, .string name] w fun e w' => e = .returned (.bool false) ∧ Below w.heap.size w w') := by
          rw [show decide (lowS rn = lowS name) = false from by simpa using he] at SA
          exact SA
        clear SA KY KN HK he
        go_wp2_with fail
        refine (HSA.out _).mono ?_
        rintro e w2 ⟨rfl, hb2⟩
        have HB2 : Hid (Below w.heap.size w w2) := hb.trans (hb2.mono hb.size)
        clear hb2 hb p1 p3
        go_wp2_with fail
        go_roundw
        case rel => exact ⟨k + 1, o, bf, by omega, by go_num, rfl, rfl, by rw [HX.out]; exact HO.out, by rw [HX.out]; exact HBF.out, by omega, HB2.out⟩
        case measure => simp [intOf]; omega
    · have ek : l.take k = l := List.take_of_length_le (by have := HN.out; omega)
      have HT : Hid ((⟨(hjoinL (valsOf (lowS name) l)).toArray⟩ : ByteArray) = o) := by
        show _ = _
        have := HO.out
        rw [ek] at this
        exact (hof_list this).symm
      have HF : Hid (anyV (valsOf (lowS name) l) = bf) := by
        have := HBF.out
        rw [ek] at this
        exact this.symm
      clear HO HBF ek
      go_wp2_with fail
      go_ret2
      exact ⟨hret_sb HT.out.symm HF.out.symm, hb⟩
end Go.Proofs.YtbandckkgdnlpaaDoor
