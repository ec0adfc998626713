/-
  Who goes out of a bulkhead of one's own, by the model.
-/
import Derived.Test.YtdfikpadanmgmaaExpP
import Derived.Test.YtdfikpadanmgmaaBlkSpec
namespace Go.Proofs.Ytdfikpadanmgmaa
open Go.ChangeShapes Go.WideShapes Go.ChangeAt Go.RowKit Go.Sort
def GoneB (w w' : World) (O : Nat) (y : Int) (L : List Wt) (I : List Int) (e : Ending) : Prop := ∃ va vc vi, e = .returned vi ∧ D2 w' O (.int .i64 y) (.slice va L.length vc) ∧ OwnWt w' w.heap.size (.slice va L.length vc) L ∧ OwnNs w' w.heap.size vi I ∧ (∀ q, (Value.slice va L.length vc).ownBlock = some q → vi.ownBlock ≠ some q) ∧ w.grownBy w' (some O)
set_option maxRecDepth 100000 in
set_option maxHeartbeats 8000000 in
theorem specGone_any (w : World) (O : Nat) (y : Int) (a : Option Addr) (cap : Nat) (l : List Wt) (now : Int) (hl : l.length ≤ 8) (hB : D2 w O (.int .i64 y) (.slice a l.length cap)) (hi : WtIn w a l) :
    Calls Try.prog 84 #[.pointer (some ⟨O, 0, none⟩), .int .i64 now] w fun e w' => GoneB w w' O y (leftW now l) (goneW now l) e := by
  have HI : Hid (WtIn w a l) := hi
  have HB := hid11 hB
  have HJ0 : Hid (XJ w ((w.alloc (.cells #[] 64)).alloc (.cells #[] 2)) w.heap.size (.slice (some ⟨w.heap.size, 0, none⟩) 0 0) (.slice (some ⟨w.heap.size + 1, 0, none⟩) 0 0) [] []) := by
    refine ⟨(OwnWt.made0 w w.heap.size (Nat.le_refl _)).below ((Below.refl _ _).alloc (Nat.le_refl _) _), ?_, ?_, ((Below.refl _ _).alloc (Nat.le_refl _) _).alloc (by simp) _⟩
    · have := World.ownsRow_made (w.alloc (.cells #[] 64)) (base := w.heap.size) (e := 2) (size := 1) #[] 0 (by simp) (by unfold maxLen; omega) rfl
      unfold OwnNs
      simpa [wNs] using this
    · intro q hq e
      simp only [Value.ownBlock, Option.some.injEq] at hq e
      omega
  obtain ⟨n, hn⟩ : ∃ n, l.length = n := ⟨_, rfl⟩
  have HN : Hid (l.length = n) := hn
  rw [hn] at HB hl
  clear hn hi hB
  go_enter Try.func84, Try.ntmps84
  go_wp2_with fail
  go_loopw [5, 6, 7] (fun u v i wr => ∃ k : Nat, k ≤ n ∧ i = .int .i64 k ∧ XJ w wr w.heap.size u v (leftW now (l.take k)) (goneW now (l.take k))) (fun _ _ i _ => n - (intOf i).toNat)
  case atStart => exact ⟨0, Nat.zero_le _, rfl, HJ0.out⟩
  case round =>
    obtain ⟨k, hk, rfl, hj⟩ := hrel
    clear HJ0
    have HJ := hid11 hj
    obtain ⟨o0, o1, of, olt⟩ := HB.out.keep hj.lo
    have hsz : w.heap.size ≤ wr.heap.size := hj.lo.size
    clear hj
    by_cases hlt : k < n
    · obtain ⟨r, hr⟩ : ∃ r, l[k]? = some r := ⟨l[k]'(by have := HN.out; omega), List.getElem?_eq_getElem _⟩
      rcases (HI.out.keep HJ.out.lo) with h | ⟨b, off, rfl, hat⟩
      · subst h; simp at hr
      obtain ⟨p0, p1⟩ := hat k r hr
      have gk : (k : Int) < n := by omega
      have gk0 : (0 : Int) ≤ k := by omega
      have HG := hid11 (goneW_take (now := now) hr)
      have HL := hid11 (leftW_take (now := now) hr)
      have hgl : (goneW now (l.take k)).length ≤ 8 := Nat.le_trans (goneW_len _ _) (by rw [List.length_take]; have := HN.out; omega)
      have hll : (leftW now (l.take k)).length ≤ 8 := Nat.le_trans (leftW_len _ _) (by rw [List.length_take]; have := HN.out; omega)
      clear hr hat
      by_cases hd : r.du ≤ now
      · have HG2 : Hid (goneW now (l.take (k + 1)) = goneW now (l.take k) ++ [r.wi]) := by show _ = _; rw [HG.out, if_pos hd]
        have HL2 : Hid (leftW now (l.take (k + 1)) = leftW now (l.take k)) := by show _ = _; rw [HL.out, if_pos hd, List.append_nil]
        clear HG HL
        go_wp2_with (at_builtin; refine wpList_append1Ns wr rfl (.tmp 29) (.tmp 38) rfl w.heap.size u6 (goneW now (l.take k)) r.wi rfl rfl HJ.out.oi (by omega) hsz ?_; intro g cp w2 h1 h2 h3; have HJ2 := hid11 (HJ.out.tellI hsz h1 h2 h3); clear h1 h2 h3)
        go_roundw
        case rel => exact ⟨k + 1, by omega, by go_num, by rw [HG2.out, HL2.out]; exact HJ2.out⟩
        case measure => simp [intOf]; omega
      · have HG2 : Hid (goneW now (l.take (k + 1)) = goneW now (l.take k)) := by show _ = _; rw [HG.out, if_neg hd, List.append_nil]
        have HL2 : Hid (leftW now (l.take (k + 1)) = leftW now (l.take k) ++ [r]) := by show _ = _; rw [HL.out, if_neg hd]
        clear HG HL
        go_wp2_with (at_builtin; refine wpList_appendGWt wr rfl (.tmp 40) (.tmp 48) rfl w.heap.size u5 (leftW now (l.take k)) r rfl rfl HJ.out.ol (by omega) hsz ?_; intro g cp w2 h1 h2 h3; have HJ2 := hid11 (HJ.out.tellL hsz h1 h2 h3); clear h1 h2 h3)
        go_roundw
        case rel => exact ⟨k + 1, by omega, by go_num, by rw [HG2.out, HL2.out]; exact HJ2.out⟩
        case measure => simp [intOf]; omega
    · have ek : l.take k = l := List.take_of_length_le (by have := HN.out; omega)
      rw [ek] at HJ
      have gk : ¬ (k : Int) < n := by omega
      obtain ⟨va, vc, rfl, hcp, _⟩ := HJ.out.ol.in
      have HD := hid11 (HB.out.keep HJ.out.lo)
      have hltO : O < w.heap.size := HB.out.lt
      have of1 := of 1
      clear ek
      go_wp2_with fail
      go_ret
      refine ⟨va, vc, _, rfl, ⟨by rw [World.cell?_setCell_other _ _ _ _ (fun e => by have := congrArg Addr.off e; simp at this)]; exact HD.out.c0, World.cell?_setCell_same _ _ _ HD.out.c1, fun o => by rw [World.frozen?_setCell]; exact HD.out.fr o, by simpa using HD.out.lt⟩, HJ.out.ol.gw (gwSet _ _ _ _) hltO, ?_, HJ.out.ap, gwTrans (gwBelow _ HJ.out.lo) (gwSet _ _ _ _)⟩
      refine OwnNs.kept HJ.out.oi (gwSet wr O 1 _) ?_
      cases e : Value.ownBlock _ with
      | none => exact .inl rfl
      | some q => right; intro e2; have := row_ge HJ.out.oi q e; have := Option.some.inj e2; omega
set_option maxRecDepth 100000 in
set_option maxHeartbeats 8000000 in
theorem specCan_any (w : World) (O : Nat) (y : Int) (a : Option Addr) (cap : Nat) (l : List Wt) (x : Int) (hl : l.length ≤ 8) (hB : D2 w O (.int .i64 y) (.slice a l.length cap)) (hi : WtIn w a l) :
    Calls Try.prog 90 #[.pointer (some ⟨O, 0, none⟩), .int .i64 x] w fun e w' => e = .returned (.tuple #[]) ∧ ∃ va vc, D2 w' O (.int .i64 y) (.slice va (withoutW l [x]).length vc) ∧ OwnWt w' w.heap.size (.slice va (withoutW l [x]).length vc) (withoutW l [x]) ∧ w.grownBy w' (some O) := by
  have HI : Hid (WtIn w a l) := hi
  have HB := hid11 hB
  have HJ0 : Hid (OwnWt (w.alloc (.cells #[] 64)) w.heap.size (.slice (some ⟨w.heap.size, 0, none⟩) 0 0) [] ∧ Below w.heap.size w (w.alloc (.cells #[] 64))) := ⟨OwnWt.made0 w w.heap.size (Nat.le_refl _), (Below.refl _ _).alloc (Nat.le_refl _) _⟩
  obtain ⟨n, hn⟩ : ∃ n, l.length = n := ⟨_, rfl⟩
  have HN : Hid (l.length = n) := hn
  rw [hn] at HB hl
  clear hn hi hB
  go_enter Try.func90, Try.ntmps90
  go_wp2_with fail
  go_loopw [4, 5] (fun u i wr => ∃ k : Nat, k ≤ n ∧ i = .int .i64 k ∧ OwnWt wr w.heap.size u (withoutW (l.take k) [x]) ∧ Below w.heap.size w wr) (fun _ i _ => n - (intOf i).toNat)
  case atStart => exact ⟨0, Nat.zero_le _, rfl, HJ0.out.1, HJ0.out.2⟩
  case round =>
    obtain ⟨k, hk, rfl, hj, hlo⟩ := hrel
    clear HJ0
    have HJ := hid11 hj
    have HLO := hid11 hlo
    obtain ⟨o0, o1, of, olt⟩ := HB.out.keep hlo
    have hsz : w.heap.size ≤ wr.heap.size := hlo.size
    clear hj
    by_cases hlt : k < n
    · obtain ⟨r, hr⟩ : ∃ r, l[k]? = some r := ⟨l[k]'(by have := HN.out; omega), List.getElem?_eq_getElem _⟩
      rcases (HI.out.keep hlo) with h | ⟨b, off, rfl, hat⟩
      · subst h; simp at hr
      obtain ⟨p0, p1⟩ := hat k r hr
      have gk : (k : Int) < n := by omega
      have gk0 : (0 : Int) ≤ k := by omega
      have HL := hid11 (withoutW_take (ids := [x]) hr)
      have hll : (withoutW (l.take k) [x]).length ≤ 8 := Nat.le_trans (withoutW_len _ _) (by rw [List.length_take]; have := HN.out; omega)
      clear hr hat hlo
      by_cases hd : r.wi = x
      · have HL2 : Hid (withoutW (l.take (k + 1)) [x] = withoutW (l.take k) [x]) := by show _ = _; rw [HL.out, if_pos (by simp [hd]), List.append_nil]
        clear HL
        rw [hd] at p0
        go_wp2_with fail
        go_roundw
        case rel => exact ⟨k + 1, by omega, by go_num, by rw [HL2.out]; exact HJ.out, HLO.out⟩
        case measure => simp [intOf]; omega
      · have HL2 : Hid (withoutW (l.take (k + 1)) [x] = withoutW (l.take k) [x] ++ [r]) := by show _ = _; rw [HL.out, if_neg (by simp [hd])]
        have hd2 : (r.wi != x) = true := by simpa using hd
        clear HL
        go_wp2_with (at_builtin; refine wpList_append1Wt wr rfl (.tmp 26) (.tmp 34) rfl w.heap.size u4 (withoutW (l.take k) [x]) r rfl rfl HJ.out (by omega) hsz ?_; intro v2 w2 h1 h2 _; have HJ2 : Hid (OwnWt w2 w.heap.size v2 (withoutW (l.take k) [x] ++ [r]) ∧ Below w.heap.size w w2) := ⟨h1, HLO.out.trans h2⟩; clear h1 h2)
        go_roundw
        case rel => exact ⟨k + 1, by omega, by go_num, by rw [HL2.out]; exact HJ2.out.1, HJ2.out.2⟩
        case measure => simp [intOf]; omega
    · have ek : l.take k = l := List.take_of_length_le (by have := HN.out; omega)
      rw [ek] at HJ
      have gk : ¬ (k : Int) < n := by omega
      obtain ⟨va, vc, rfl, hcp, _⟩ := HJ.out.in
      have HD := hid11 (HB.out.keep HLO.out)
      have hltO : O < w.heap.size := HB.out.lt
      have of1 := of 1
      clear ek hlo
      go_wp2_with fail
      refine bodyPost_end (v := .tuple #[]) (by simp [results, Try.results90]) rfl ⟨rfl, va, vc, ⟨by rw [World.cell?_setCell_other _ _ _ _ (fun e => by have := congrArg Addr.off e; simp at this)]; exact HD.out.c0, World.cell?_setCell_same _ _ _ HD.out.c1, fun o => by rw [World.frozen?_setCell]; exact HD.out.fr o, by simpa using HD.out.lt⟩, HJ.out.gw (gwSet _ _ _ _) hltO, gwTrans (gwBelow _ HLO.out) (gwSet _ _ _ _)⟩
end Go.Proofs.Ytdfikpadanmgmaa
