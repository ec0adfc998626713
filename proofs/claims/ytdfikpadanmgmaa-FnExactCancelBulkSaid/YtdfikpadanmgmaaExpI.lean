/-
  Who goes, by the program.
-/
import Derived.Test.YtdfikpadanmgmaaExpP
import Derived.Test.YtdfikpadanmgmaaBlkImpl
import Derived.Deep.CutRange
import Derived.Deep.CutBlock
import Derived.Deep.LoopGhost
import Derived.WalkMore
namespace Go.Proofs.Ytdfikpadanmgmaa
open Go.ChangeShapes Go.WideShapes Go.ChangeAt Go.RowKit Go.Sort
def NsRes (w : World) (base : Nat) (l : List Int) (e : Ending) : Prop := ∃ a c, e = .returned (.slice a l.length c) ∧ NsNew w base (.slice a l.length c) l
set_option maxRecDepth 100000 in
set_option maxHeartbeats 8000000 in
theorem dueBy_any (w : World) (a : Option Addr) (cap : Nat) (l : List Wt) (now : Int) (hl : l.length ≤ 8) (hi : WtIn w a l) :
    Calls Try.prog 86 #[.slice a l.length cap, .int .i64 now] w fun e w' => NsRes w' w.heap.size (goneW now l) e ∧ Below w.heap.size w w' := by
  have HI : Hid (WtIn w a l) := hi
  obtain ⟨n, hn⟩ : ∃ n, l.length = n := ⟨_, rfl⟩
  have HN : Hid (l.length = n) := hn
  rw [hn] at hl ⊢
  clear hn hi
  go_enter Try.func86, Try.ntmps86
  go_wp2_with fail
  go_loopw [5, 10] (fun u i wr => ∃ k : Nat, k ≤ n ∧ i = .int .i64 k ∧ OwnNs wr w.heap.size u (goneW now (l.take k)) ∧ Below w.heap.size w wr) (fun _ i _ => n - (intOf i).toNat)
  case atStart => exact ⟨0, Nat.zero_le _, rfl, OwnNs.none0 _ _, Below.refl _ _⟩
  case round =>
    obtain ⟨k, hk, rfl, hj, hlo⟩ := hrel
    have HLO := hid11 hlo
    have hsz : w.heap.size ≤ wr.heap.size := hlo.size
    by_cases hlt : k < n
    · obtain ⟨r, hr⟩ : ∃ r, l[k]? = some r := ⟨l[k]'(by have := HN.out; omega), List.getElem?_eq_getElem _⟩
      rcases (HI.out.keep hlo) with h | ⟨b, off, rfl, hat⟩
      · subst h; simp at hr
      obtain ⟨p0, p1⟩ := hat k r hr
      have gk : (k : Int) < n := by omega
      have gk0 : (0 : Int) ≤ k := by omega
      have HL := hid11 (goneW_take (now := now) hr)
      have hll : (goneW now (l.take k)).length ≤ 8 := Nat.le_trans (goneW_len _ _) (by rw [List.length_take]; have := HN.out; omega)
      have bA : Below wr.heap.size wr (wr.alloc (.cells #[.int .i64 r.wi, .int .i64 r.du] 64)) := (Below.refl _ _).alloc (Nat.le_refl _) _
      have HJA := hid11 (hj.below bA)
      have HBA := hid11 (hlo.trans (bA.mono hlo.size))
      have hszA : w.heap.size ≤ (wr.alloc (.cells #[.int .i64 r.wi, .int .i64 r.du] 64)).heap.size := HBA.out.size
      clear hr hat hlo hj bA
      by_cases hd : r.du ≤ now
      · have HL2 : Hid (goneW now (l.take (k + 1)) = goneW now (l.take k) ++ [r.wi]) := by show _ = _; rw [HL.out, if_pos hd]
        clear HL
        go_wp2_with (at_builtin; refine wpList_append1Ns (wr.alloc (.cells #[.int .i64 r.wi, .int .i64 r.du] 64)) rfl (.tmp 18) (.tmp 21) rfl w.heap.size u5 (goneW now (l.take k)) r.wi rfl (by simp [Act.eval]) HJA.out (by omega) hszA ?_; intro g cp w2 h1 h2 h3; have HJ2 : Hid (OwnNs w2 w.heap.size (.slice (some ⟨g, 0, none⟩) ((goneW now (l.take k)).length + 1) cp) (goneW now (l.take k) ++ [r.wi]) ∧ Below w.heap.size w w2) := ⟨h1, HBA.out.trans ⟨h2.os, h2.tape, h2.output, h2.size, fun q hq => h2.block q (Nat.lt_of_lt_of_le hq hszA) (fun e => by have := row_ge HJA.out q e.symm; omega)⟩⟩; clear h1 h2 h3)
        go_roundw
        case rel => exact ⟨k + 1, by omega, by go_num, by rw [HL2.out]; exact HJ2.out.1, HJ2.out.2⟩
        case measure => simp [intOf]; omega
      · have HL2 : Hid (goneW now (l.take (k + 1)) = goneW now (l.take k)) := by show _ = _; rw [HL.out, if_neg hd, List.append_nil]
        clear HL
        go_wp2_with fail
        go_roundw
        case rel => exact ⟨k + 1, by omega, by go_num, by rw [HL2.out]; exact HJA.out, HBA.out⟩
        case measure => simp [intOf]; omega
    · have ek : l.take k = l := List.take_of_length_le (by have := HN.out; omega)
      rw [ek] at hj
      have gk : ¬ (k : Int) < n := by omega
      have HJ := hid11 hj
      obtain ⟨va, vc, rfl, _, _⟩ := hj.in
      clear ek hj hlo
      go_wp2_with fail
      go_ret
      exact ⟨⟨va, vc, rfl, HJ.out.new⟩, HLO.out⟩
set_option maxRecDepth 100000 in
set_option maxHeartbeats 8000000 in
theorem without_any (w : World) (a ia : Option Addr) (cap ic : Nat) (l : List Wt) (ids : List Int) (hl : l.length ≤ 8) (hm : ids.length ≤ 8) (hi : WtIn w a l) (hii : NsIn w ia ids) :
    Calls Try.prog 121 #[.slice a l.length cap, .slice ia ids.length ic] w fun e w' => WtRes w' w.heap.size (withoutW l ids) e ∧ Below w.heap.size w w' := by
  have HI : Hid (WtIn w a l) := hi
  have HII : Hid (NsIn w ia ids) := hii
  obtain ⟨n, hn⟩ : ∃ n, l.length = n := ⟨_, rfl⟩
  have HN : Hid (l.length = n) := hn
  obtain ⟨m, hm'⟩ : ∃ m, ids.length = m := ⟨_, rfl⟩
  have HM : Hid (ids.length = m) := hm'
  rw [hn] at hl ⊢
  rw [hm'] at hm ⊢
  clear hn hi hii hm'
  go_enter Try.func121, Try.ntmps121
  go_wp2_with fail
  go_step3
  go_wp2_with fail
  go_step3
  go_wp2_with fail
  go_loopg [5, 12] n (fun g u i wr => ∃ k : Nat, k + g = n ∧ i = .int .i64 k ∧ OwnWt wr w.heap.size u (withoutW (l.take k) ids) ∧ Below w.heap.size w wr)
  case atStart => exact ⟨0, by omega, rfl, OwnWt.none0 _ _, Below.refl _ _⟩
  case round =>
    obtain ⟨k, hk, rfl, hj, hlo⟩ := hrel
    have HLO := hid11 hlo
    have hsz : w.heap.size ≤ wr.heap.size := hlo.size
    cases gk with
    | zero =>
      have ek : l.take k = l := List.take_of_length_le (by have := HN.out; omega)
      rw [ek] at hj
      have gk : ¬ (k : Int) < n := by omega
      have HJ := hid11 hj
      obtain ⟨va, vc, rfl, _, _⟩ := hj.in
      clear ek hj hlo
      go_wp2_with fail
      try rw [Exit.noGoto_ret]
      go_ret
      exact ⟨WtRes.of HJ.out, HLO.out⟩
    | succ g =>
      obtain ⟨r, hr⟩ : ∃ r, l[k]? = some r := ⟨l[k]'(by have := HN.out; omega), List.getElem?_eq_getElem _⟩
      rcases (HI.out.keep hlo) with h | ⟨b, off, rfl, hat⟩
      · subst h; simp at hr
      obtain ⟨p0, p1⟩ := hat k r hr
      have gk : (k : Int) < n := by omega
      have gk0 : (0 : Int) ≤ k := by omega
      have HL := hid11 (withoutW_take (ids := ids) hr)
      have hll : (withoutW (l.take k) ids).length ≤ 8 := Nat.le_trans (withoutW_len _ _) (by rw [List.length_take]; have := HN.out; omega)
      obtain ⟨WA, hWA⟩ : ∃ W, W = (wr.alloc (.cells #[.int .i64 r.wi, .int .i64 r.du] 64)) := ⟨_, rfl⟩
      have HWA := hid11 hWA
      have bA : Below wr.heap.size wr WA := by rw [hWA]; exact (Below.refl _ _).alloc (Nat.le_refl _) _
      have HDA : Hid (D2 WA wr.heap.size (.int .i64 r.wi) (.int .i64 r.du)) := by show D2 _ _ _ _; rw [hWA]; exact D2.new wr _ _ _
      have HJA := hid11 (hj.below bA)
      have HBA := hid11 (hlo.trans (bA.mono hlo.size))
      have hszA : w.heap.size ≤ WA.heap.size := HBA.out.size
      obtain ⟨B, hBq⟩ : ∃ B, wr.heap.size = B := ⟨_, rfl⟩
      rw [hBq] at HDA
      have HIA := hid11 (HII.out.keep HBA.out)
      clear hr hat hlo hj bA hWA
      go_wp2_with fail
      rw [← HWA.out]
      clear HWA hBq
      obtain ⟨d0, d1, df, _⟩ := HDA.out
      go_loopg [18] m (fun g2 i w3 => ∃ j : Nat, j + g2 = m ∧ i = .int .i64 j ∧ (∀ (t : Nat) z, t < j → ids[t]? = some z → r.wi ≠ z) ∧ w3 = WA)
      case atStart => exact ⟨0, by omega, rfl, fun t z h => by omega, rfl⟩
      case round =>
        obtain ⟨j, hj2, rfl, hA, rfl⟩ := hrel
        have HA := hid11 hA
        clear hA
        cases gk with
        | zero =>
          have gj : ¬ (j : Int) < m := by omega
          have hno : (ids.any fun x => decide (r.wi = x)) = false := by
            rw [List.any_eq_false]
            intro z hz
            obtain ⟨t, ht⟩ := List.getElem?_of_mem hz
            simpa using HA.out t z (by have := (List.getElem?_eq_some_iff.1 ht).1; have := HM.out; omega) ht
          have HL2 : Hid (withoutW (l.take (k + 1)) ids = withoutW (l.take k) ids ++ [r]) := by show _ = _; rw [HL.out, if_neg (by rw [hno]; decide)]
          clear HL hno HA
          go_wp2_with (at_builtin; refine wpList_append1Wt _ rfl (.tmp 27) (.tmp 29) rfl w.heap.size u5 (withoutW (l.take k) ids) r rfl rfl HJA.out (by omega) hszA ?_; intro v2 w2 h1 h2 _; have HJ2 : Hid (OwnWt w2 w.heap.size v2 (withoutW (l.take k) ids ++ [r]) ∧ Below w.heap.size w w2) := ⟨h1, HBA.out.trans h2⟩; clear h1 h2)
          go_roundg g
          case measure => omega
          case rel => exact ⟨k + 1, by omega, by go_num, by rw [HL2.out]; exact HJ2.out.1, HJ2.out.2⟩
        | succ g2 =>
          obtain ⟨z, hz⟩ : ∃ z, ids[j]? = some z := ⟨ids[j]'(by have := HM.out; omega), List.getElem?_eq_getElem _⟩
          rcases HIA.out with h | ⟨b2, off2, rfl, hat2⟩
          · subst h; simp at hz
          have q0 := hat2 j z hz
          have gj : (j : Int) < m := by omega
          have gj0 : (0 : Int) ≤ j := by omega
          by_cases hd : r.wi = z
          · have hyes : (ids.any fun x => decide (r.wi = x)) = true := List.any_eq_true.2 ⟨z, List.mem_of_getElem? hz, by simpa using hd⟩
            have HL2 : Hid (withoutW (l.take (k + 1)) ids = withoutW (l.take k) ids) := by show _ = _; rw [HL.out, if_pos hyes, List.append_nil]
            rw [hd] at d0
            clear HL hyes HA hat2 hz
            go_wp2_with fail
            go_roundg g
            case measure => omega
            case rel => exact ⟨k + 1, by omega, by go_num, by rw [HL2.out]; exact HJA.out, HBA.out⟩
          · have HA2 : Hid (∀ (t : Nat) y, t < j + 1 → ids[t]? = some y → r.wi ≠ y) := by
              intro t y ht hy
              by_cases e : t = j
              · subst e; rw [hz] at hy; obtain rfl := Option.some.inj hy; exact hd
              · exact HA.out t y (by omega) hy
            have hd2 : (r.wi == z) = false := by simpa using hd
            clear HA hat2 hz
            go_wp2_with fail
            go_roundg g2
            case measure => omega
            case rel => exact ⟨j + 1, by omega, by go_num, HA2.out, rfl⟩
end Go.Proofs.Ytdfikpadanmgmaa
