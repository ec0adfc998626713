/-
  Texts of one claim, one behind the other.
-/
import Derived.BigQuiet
import Derived.Deep.AppendLies
import Derived.Deep.RegionHeld3
import Derived.Deep.RegionWith
import Derived.Lib.CutLaws
import Derived.Lib.IndexMore
import Derived.Lib.LaidTab
import Derived.Lib.QuietBelow
import Derived.Lib.Strings
import Derived.MakeChecks
import Derived.Maps.OwnSet
import Derived.Shelf.LaysM
import Derived.Shelf.Strconv.Clone
import Derived.Shelf.Strings.OnBuilder
import Derived.Shelf.Strings.SlTrimAscii
import Derived.Test.YtelbddgdaibolaaDoorProg
import Derived.Test.YtelbddgdaibolaaDoorRows
import Derived.Test.YtelbddgdaibolaaDoorNsA
/-
  What the model's IsWord answers, and hasOnly over the table.
-/
namespace Go.Proofs.YtelbddgdaibolaaDoor
open Go.ChangeShapes Go.WideShapes Go.ChangeAt Go.RowKit
set_option maxHeartbeats 400000 in
theorem specIsWord_size (s : ByteArray) (w : World) (h : s.size < 1 ∨ 64 < s.size) :
    Calls Tryd.prog 72 #[.string s] w fun e w' => e = .returned (.bool false) ∧ w' = w := by
  rcases h with h | h
  · have hh : (s.size : Int) < 1 := by omega
    go_enter Tryd.func72, Tryd.ntmps72
    go_wp2
    go_ret
    exact ⟨rfl, rfl⟩
  · have hh : (64 : Int) < s.size := by omega
    have h1 : ¬ (s.size : Int) < 1 := by omega
    go_enter Tryd.func72, Tryd.ntmps72
    go_wp2
    go_ret
    exact ⟨rfl, rfl⟩
set_option maxHeartbeats 1000000 in
theorem specIsWord_mid (s : ByteArray) (w : World) (h1 : 1 ≤ s.size) (h2 : s.size ≤ 64) :
    Calls Tryd.prog 72 #[.string s] w fun e w' => e = .returned (.bool (allW s.data.toList)) ∧ w' = w := by
  have g1 : ¬ (s.size : Int) < 1 := by omega
  have g2 : ¬ (64 : Int) < s.size := by omega
  go_enter Tryd.func72, Tryd.ntmps72
  go_wp2
  go_loop [3] (fun i => ∃ k : Nat, k ≤ s.size ∧ i = .int .i64 k ∧ allW (s.data.toList.take k) = true) (fun i => s.size - (intOf i).toNat)
  case atStart => exact ⟨0, Nat.zero_le _, rfl, rfl⟩
  case round =>
    obtain ⟨k, hk, rfl, hall⟩ := hrel
    by_cases hlt : k < s.size
    · have hb : ((s[k].toNat : Nat) : Int) < 256 := by have := s[k].toNat_lt; omega
      cases hw : wordI (s[k].toNat : Int)
      · have HN : Hid (allW s.data.toList = false) := allW_not s k hlt hw
        have HW : Hid (wordI (s[k].toNat : Int) = false) := hw
        clear hall hw
        go_wp2_with fail
        refine (wordByte_any _ _ (by omega) hb).mono ?_
        rintro e w' ⟨rfl, rfl⟩
        rw [HW.out]
        go_wp2
        go_ret
        exact ⟨ret_bool HN.out.symm, rfl⟩
      · have HA : Hid (allW (s.data.toList.take (k + 1)) = true) := by
          show _ = _
          rw [take_snoc s k hlt, allW_snoc, hall, hw]; rfl
        have HW : Hid (wordI (s[k].toNat : Int) = true) := hw
        clear hall hw
        go_wp2_with fail
        refine (wordByte_any _ _ (by omega) hb).mono ?_
        rintro e w' ⟨rfl, rfl⟩
        rw [HW.out]
        go_wp2
        go_round
        case rel => exact ⟨k + 1, by omega, by go_num, HA.out⟩
        case measure => simp [intOf]; omega
    · have ek : s.data.toList.take k = s.data.toList := List.take_of_length_le (by simp; omega)
      rw [ek] at hall
      have HN : Hid (allW s.data.toList = true) := hall
      clear ek hall
      go_wp2
      go_ret
      exact ⟨ret_bool HN.out.symm, rfl⟩
theorem specIsWord_any (s : ByteArray) (w : World) :
    Calls Tryd.prog 72 #[.string s] w fun e w' => e = .returned (.bool (wordS s)) ∧ w' = w := by
  by_cases c : s.size < 1 ∨ 64 < s.size
  · have h : wordS s = false := by
      rcases c with c | c
      · exact wordS_short s c
      · exact wordS_long s c
    rw [h]; exact specIsWord_size s w c
  · rw [wordS_mid s (by omega) (by omega)]
    exact specIsWord_mid s w (by omega) (by omega)
set_option maxHeartbeats 1000000 in
theorem hasOnly_any (s : ByteArray) (cs : Array Value) (w : World) (hs : s.size ≤ 64) (hcs : ∀ i, i < 128 → cs[i]? = some (.bool (wordI (i : Int)))) :
    Calls Tryd.prog 89 #[.string s, .agg cs] w fun e w' => e = .returned (.bool (allW s.data.toList)) ∧ Below w.heap.size w w' := by
  have hcell : ∀ i, i < 128 → (w.alloc (.cells cs 122)).cell? ⟨w.heap.size, i, none⟩ = some (.bool (wordI (i : Int))) := fun i hi => by
    rw [World.cell?_alloc_mark]; exact hcs i hi
  have HC : Hid (∀ i, i < 128 → (w.alloc (.cells cs 122)).cell? ⟨w.heap.size, i, none⟩ = some (.bool (wordI (i : Int)))) := hcell
  clear hcell hcs
  go_enter Tryd.func89, Tryd.ntmps89
  go_wp2
  go_loop [9] (fun i => ∃ k : Nat, k ≤ s.size ∧ i = .int .i64 k ∧ allW (s.data.toList.take k) = true) (fun i => s.size - (intOf i).toNat)
  case atStart => exact ⟨0, Nat.zero_le _, rfl, rfl⟩
  case round =>
    obtain ⟨k, hk, rfl, hall⟩ := hrel
    by_cases hlt : k < s.size
    · have hb : ((s[k].toNat : Nat) : Int) < 256 := by have := s[k].toNat_lt; omega
      by_cases hbig : 128 ≤ (s[k].toNat : Int)
      · have HN : Hid (allW s.data.toList = false) := allW_not s k hlt (wordI_big _ hbig)
        clear hall
        go_wp2
        go_ret
        exact ⟨ret_bool HN.out.symm, (Below.refl _ _).alloc (Nat.le_refl _) _⟩
      · have hc := HC.out s[k].toNat (by omega)
        cases hw : wordI (s[k].toNat : Int)
        · have HN : Hid (allW s.data.toList = false) := allW_not s k hlt hw
          rw [hw] at hc
          clear hall hw
          go_wp2
          go_ret
          exact ⟨ret_bool HN.out.symm, (Below.refl _ _).alloc (Nat.le_refl _) _⟩
        · have HA : Hid (allW (s.data.toList.take (k + 1)) = true) := by
            show _ = _
            rw [take_snoc s k hlt, allW_snoc, hall, hw]; rfl
          rw [hw] at hc
          clear hall hw
          go_wp2
          go_round
          case rel => exact ⟨k + 1, by omega, by go_num, HA.out⟩
          case measure => simp [intOf]; omega
    · have ek : s.data.toList.take k = s.data.toList := List.take_of_length_le (by simp; omega)
      rw [ek] at hall
      have HN : Hid (allW s.data.toList = true) := hall
      clear ek hall
      go_wp2
      go_ret
      exact ⟨ret_bool HN.out.symm, (Below.refl _ _).alloc (Nat.le_refl _) _⟩
end Go.Proofs.YtelbddgdaibolaaDoor
/-
  A slice of bytes that the call itself grows: one byte more.
-/
namespace Go.Proofs.YtelbddgdaibolaaDoor
open Go.ChangeShapes Go.WideShapes Go.ChangeAt Go.RowKit
theorem infoByteB : (Tryd.prog.info? 5).map (fun i => (i.zero, i.size, i.bytes)) = some (some (.int .u8 0), 1, 1) := by kernel_rfl
def bytesW (l : List UInt8) : List Value := l.map fun c => Value.int .u8 (c.toNat : Int)
/-- v, a slice that is not nil, holds the bytes l in a row of the call's own, from block base on. -/
structure OwnB (w : World) (base : Nat) (v : Value) (l : List UInt8) : Prop where
  own : w.ownsRow base 5 1 v l.length (bytesW l)
  nn : v ≠ .slice none 0 0
theorem own_geB {w : World} {base : Nat} {e : TypeId} {size : Nat} {v : Value} {n : Nat} {xs : List Value} (h : w.ownsRow base e size v n xs) (q : Nat) (hq : v.ownBlock = some q) : base ≤ q := by
  obtain ⟨_, h | ⟨g, c, cur, rfl, hg, _⟩⟩ := h
  · rw [h.1] at hq; cases hq
  · simp only [Value.ownBlock, Option.some.injEq] at hq; omega
theorem OwnB.text {w : World} {base : Nat} {v : Value} {l : List UInt8} (h : OwnB w base v l) :
    (convert 23 9 v).run Tryd.prog w = .ok (.string ⟨l.toArray⟩) w := by
  have h0 := h.own
  obtain ⟨_, hn | ⟨g, c, cur, rfl, hg, _⟩⟩ := h.own
  · exact absurd hn.1 h.nn
  · refine run_convert_bytes_back w 23 9 5 ⟨g, 0, none⟩ c l Tryd.underlying23 Tryd.underlying5 Tryd.underlying9 ?_
    intro j hj
    have := h0.cellAt j (by omega)
    have e : (⟨g, 0, none⟩ : Addr).add j = ⟨g, j, none⟩ := by unfold Addr.add; split <;> simp_all
    rw [e, this]
    simp [bytesW, hj]
/-- A slice literal of bytes, just laid. -/
theorem OwnB.made (w : World) (base : Nat) (hb : base ≤ w.heap.size) (l : List UInt8) (hl : l.length ≤ 1000000) : OwnB (w.alloc (.cells (bytesW l).toArray 5)) base (.slice (some ⟨w.heap.size, 0, none⟩) l.length l.length) l where
  own := ⟨by simp [bytesW], .inr ⟨w.heap.size, l.length, (bytesW l).toArray, rfl, hb, heap_alloc_new _ _, Nat.le_refl _, by unfold maxLen; omega, by simp [bytesW], by simp [bytesW, List.take_of_length_le]⟩⟩
  nn := by simp
theorem OwnB.below {w w' : World} {base : Nat} {v : Value} {l : List UInt8} (h : OwnB w base v l) (hb : Below w.heap.size w w') : OwnB w' base v l := by
  refine ⟨?_, h.nn⟩
  obtain ⟨h1, h2⟩ := h.own
  refine ⟨h1, ?_⟩
  rcases h2 with h2 | ⟨g, c, cur, e, hg, hh, hrest⟩
  · exact .inl h2
  · exact .inr ⟨g, c, cur, e, hg, by rw [hb.block g (Array.getElem?_eq_some_iff.1 hh).1]; exact hh, hrest⟩
/-- 'out = append(out, c)', the byte laid in a block of its own right ahead. -/
theorem wpList_append_byte {ops : Array Oper} {rest : List Oper} {o : Oper} {a : Act} {Q : Exit → Act → World → Prop} (w : World) (hgd : o.guard = none) (s x : Operand)
    (ho : o.op = .call { callee := .builtin .append, args := #[s, x], argTypes := #[23, 23] }) (base : Nat) (v : Value) (l : List UInt8) (z : Int) (c : UInt8)
    (hs : a.eval s = v) (hx : a.eval x = .slice (some ⟨w.heap.size, 0, none⟩) 1 1) (hown : OwnB w base v l) (hc : (c.toNat : Int) = z) (hl : l.length ≤ 1000000) (hbase : base ≤ w.heap.size)
    (h : ∀ v' w', OwnB w' base v' (l ++ [c]) → Below base w w' → w.heap.size ≤ w'.heap.size → wpList Tryd.prog ops Q rest (a.put o.dst v') w') :
    wpList Tryd.prog ops Q (o :: rest) a (w.alloc (.cells #[.int .u8 z] 5)) := by
  obtain ⟨i0, hi, hz0, hz1, hz2⟩ := info_parts infoByteB
  refine wpList_append_own _ hgd s x 23 ho base 5 i0 (.int .u8 0) 1 1 Tryd.underlying23 hi hz0 hz1 hz2 rfl (by decide) v l.length (bytesW l) hs (hown.own.alloc _) ⟨w.heap.size, 0, none⟩ 1 1 [.int .u8 z] hx rfl ?_ ?_ ?_ ?_ ?_ ?_
  · intro j u hj
    match j, hj with
    | 0, hj => simp at hj; subst hj; simp [Addr.add]
  · intro u hu; simp at hu; subst hu; rfl
  · unfold maxLen; omega
  · omega
  · simp; omega
  · intro v' w' h1 h2 h3
    have e : bytesW (l ++ [c]) = bytesW l ++ [Value.int .u8 z] := by simp [bytesW, hc]
    refine h v' w' ⟨by rw [e, List.length_append]; exact h1, fun hv => hown.nn (h3.1 hv).1⟩ ?_ ?_
    · exact ((Below.refl base w).alloc hbase _).grown h2 (by simp; omega) (fun q hq => own_geB hown.own q hq)
    · have hb := ((Below.refl 0 w).alloc (Nat.zero_le _) (.cells #[.int .u8 z] 5)).grown h2 (Nat.zero_le _) (fun q _ => Nat.zero_le _)
      exact hb.size
end Go.Proofs.YtelbddgdaibolaaDoor
/-
  What the model's l2Plain and l2PlainText answer.
-/
namespace Go.Proofs.YtelbddgdaibolaaDoor
open Go.ChangeShapes Go.WideShapes Go.ChangeAt Go.RowKit
set_option maxHeartbeats 400000 in
theorem plain_any (c : Int) (w : World) (h0 : 0 ≤ c) (h1 : c < 256) :
    Calls Tryd.prog 87 #[.int .u8 c] w fun e w' => e = .returned (.bool (plainI c)) ∧ w' = w := by
  by_cases e9 : c = 9
  · subst e9
    go_enter Tryd.func87, Tryd.ntmps87
    go_wp2
    go_ret
    exact ⟨rfl, rfl⟩
  · have d9 : (c == 9) = false := by simpa using e9
    by_cases a1 : 32 ≤ c
    · by_cases a2 : c ≤ 126
      · have d2 : decide (c ≤ 126) = true := by simpa using a2
        have HP : Hid (plainI c = true) := by show _ = _; simp [plainI, a1, a2]
        go_enter Tryd.func87, Tryd.ntmps87
        go_wp2
        go_ret
        exact ⟨ret_bool HP.out.symm, rfl⟩
      · have d2 : decide (c ≤ 126) = false := by simpa using a2
        have HP : Hid (plainI c = false) := by show _ = _; simp [plainI, e9]; omega
        go_enter Tryd.func87, Tryd.ntmps87
        go_wp2
        go_ret
        exact ⟨ret_bool HP.out.symm, rfl⟩
    · have HP : Hid (plainI c = false) := by show _ = _; simp [plainI, e9]; omega
      go_enter Tryd.func87, Tryd.ntmps87
      go_wp2
      go_ret
      exact ⟨ret_bool HP.out.symm, rfl⟩
set_option maxHeartbeats 1000000 in
theorem plainText_any (s : ByteArray) (w : World) (hs : s.size ≤ 1048576) :
    Calls Tryd.prog 73 #[.string s] w fun e w' => e = .returned (.bool (plainL s.data.toList)) ∧ w' = w := by
  go_enter Tryd.func73, Tryd.ntmps73
  go_wp2
  go_loop [3] (fun i => ∃ k : Nat, k ≤ s.size ∧ i = .int .i64 k ∧ plainL (s.data.toList.take k) = true) (fun i => s.size - (intOf i).toNat)
  case atStart => exact ⟨0, Nat.zero_le _, rfl, rfl⟩
  case round =>
    obtain ⟨k, hk, rfl, hall⟩ := hrel
    by_cases hlt : k < s.size
    · have hb : ((s[k].toNat : Nat) : Int) < 256 := by have := s[k].toNat_lt; omega
      cases hw : plainI (s[k].toNat : Int)
      · have HN : Hid (plainL s.data.toList = false) := plainL_not s k hlt hw
        have HW : Hid (plainI (s[k].toNat : Int) = false) := hw
        clear hall hw
        go_wp2_with fail
        refine (plain_any _ _ (by omega) hb).mono ?_
        rintro e w' ⟨rfl, rfl⟩
        rw [HW.out]
        go_wp2
        go_ret
        exact ⟨ret_bool HN.out.symm, rfl⟩
      · have HA : Hid (plainL (s.data.toList.take (k + 1)) = true) := by
          show _ = _
          rw [take_snoc s k hlt, plainL_snoc, hall, hw]; rfl
        have HW : Hid (plainI (s[k].toNat : Int) = true) := hw
        clear hall hw
        go_wp2_with fail
        refine (plain_any _ _ (by omega) hb).mono ?_
        rintro e w' ⟨rfl, rfl⟩
        rw [HW.out]
        go_wp2
        go_round
        case rel => exact ⟨k + 1, by omega, by go_num, HA.out⟩
        case measure => simp [intOf]; omega
    · have ek : s.data.toList.take k = s.data.toList := List.take_of_length_le (by simp; omega)
      rw [ek] at hall
      have HN : Hid (plainL s.data.toList = true) := hall
      clear ek hall
      go_wp2
      go_ret
      exact ⟨ret_bool HN.out.symm, rfl⟩
end Go.Proofs.YtelbddgdaibolaaDoor
/-
  What the model's l1Trim answers.
-/
namespace Go.Proofs.YtelbddgdaibolaaDoor
open Go.ChangeShapes Go.WideShapes Go.ChangeAt Go.RowKit
set_option maxHeartbeats 400000 in
theorem blank_any (c : Int) (w : World) :
    Calls Tryd.prog 88 #[.int .u8 c] w fun e w' => e = .returned (.bool (blankI c)) ∧ w' = w := by
  by_cases h1 : c = 32
  · subst h1
    go_enter Tryd.func88, Tryd.ntmps88
    go_wp2
    go_ret
    exact ⟨rfl, rfl⟩
  · by_cases h2 : c = 9
    · subst h2
      go_enter Tryd.func88, Tryd.ntmps88
      go_wp2
      go_ret
      exact ⟨rfl, rfl⟩
    · have d1 : (c == 32) = false := by simpa using h1
      have d2 : (c == 9) = false := by simpa using h2
      have HB : Hid (blankI c = false) := by
        show _ = _
        unfold blankI
        rw [d1, d2]; rfl
      clear h1 h2
      go_enter Tryd.func88, Tryd.ntmps88
      go_wp2
      go_ret
      exact ⟨ret_bool HB.out.symm, rfl⟩
set_option maxHeartbeats 1000000 in
theorem l1Trim_big (s : ByteArray) (w : World) (hs : s.size ≤ 1048576) :
    Calls Tryd.prog 74 #[.string s] w fun e w' => e = .returned (.string (trimT s)) ∧ w' = w := by
  go_enter Tryd.func74, Tryd.ntmps74
  go_wp2
  go_loop [3] (fun i => ∃ k : Nat, k ≤ s.size ∧ i = .int .i64 k ∧ ∀ (j : Nat) b, j < k → s.data.toList[j]? = some b → blankI (b.toNat : Int) = true) (fun i => s.size - (intOf i).toNat)
  case atStart => exact ⟨0, Nat.zero_le _, rfl, fun j b h => absurd h (Nat.not_lt_zero _)⟩
  case round =>
    obtain ⟨k, hk, rfl, hall⟩ := hrel
    have H1 : Hid (∀ (j : Nat) b, j < k → s.data.toList[j]? = some b → blankI (b.toNat : Int) = true) := hall
    clear hall
    by_cases hgo : ∃ h : k < s.size, blankI (s[k].toNat : Int) = true
    · obtain ⟨hlt, hb⟩ := hgo
      have HB : Hid (blankI (s[k].toNat : Int) = true) := hb
      clear hb
      go_wp2_with fail
      refine (blank_any _ _).mono ?_
      rintro e w' ⟨rfl, rfl⟩
      rw [HB.out]
      go_wp2
      go_round
      case rel =>
        refine ⟨k + 1, by omega, by go_num, fun j b hj hbj => ?_⟩
        by_cases e : j = k
        · subst e
          have : s.data.toList[j]? = some s[j] := by rw [List.getElem?_eq_getElem (by simpa using hlt)]; rfl
          rw [this] at hbj
          obtain rfl := Option.some.inj hbj
          exact HB.out
        · exact H1.out j b (by omega) hbj
      case measure => simp [intOf]; omega
    · have H2 : Hid (∀ b, k < s.data.toList.length → s.data.toList[k]? = some b → blankI (b.toNat : Int) = false) := by
        intro b hlt hb
        have hlt' : k < s.size := by simpa using hlt
        have : s.data.toList[k]? = some s[k] := by rw [List.getElem?_eq_getElem hlt]; rfl
        rw [this] at hb
        obtain rfl := Option.some.inj hb
        cases hx : blankI (s[k].toNat : Int)
        · rfl
        · exact absurd ⟨hlt', hx⟩ hgo
      by_cases hlt : k < s.size
      · have HB : Hid (blankI (s[k].toNat : Int) = false) := by
          show _ = _
          cases hx : blankI (s[k].toNat : Int)
          · rfl
          · exact absurd ⟨hlt, hx⟩ hgo
        clear hgo
        go_wp2_with fail
        refine (blank_any _ _).mono ?_
        rintro e w' ⟨rfl, rfl⟩
        rw [HB.out]
        clear HB
        go_wp2
        go_loop [4] (fun i => ∃ m : Nat, k ≤ m ∧ m ≤ s.size ∧ i = .int .i64 m ∧ ∀ (j : Nat) b, m ≤ j → s.data.toList[j]? = some b → blankI (b.toNat : Int) = true) (fun i => (intOf i).toNat)
        case atStart => exact ⟨s.size, hk, Nat.le_refl _, rfl, fun j b hj hb => absurd (List.getElem?_eq_some_iff.1 hb).1 (by simp; omega)⟩
        case round =>
          obtain ⟨m, hkm, hm, rfl, hall⟩ := hrel
          have H3 : Hid (∀ (j : Nat) b, m ≤ j → s.data.toList[j]? = some b → blankI (b.toNat : Int) = true) := hall
          clear hall
          by_cases hkm2 : k < m
          · obtain ⟨n, rfl⟩ : ∃ n, m = n + 1 := ⟨m - 1, by omega⟩
            have hn : n < s.size := by omega
            cases hb : blankI (s[n].toNat : Int)
            · have HB : Hid (blankI (s[n].toNat : Int) = false) := hb
              have HT : Hid (s.extract k (n + 1) = trimT s) := by
                refine trim_extract s k (n + 1) (trim_between _ k (n + 1) hkm (by simpa using hm) H1.out H2.out H3.out ?_)
                intro b _ hbn
                have : s.data.toList[n]? = some s[n] := by rw [List.getElem?_eq_getElem (by simpa using hn)]; rfl
                rw [Nat.add_sub_cancel, this] at hbn
                obtain rfl := Option.some.inj hbn
                exact HB.out
              clear hb
              go_wp2_with fail
              refine (blank_any _ _).mono ?_
              rintro e w' ⟨rfl, rfl⟩
              rw [HB.out]
              go_wp2
              go_ret
              exact ⟨ret_str HT.out, rfl⟩
            · have HB : Hid (blankI (s[n].toNat : Int) = true) := hb
              clear hb
              go_wp2_with fail
              refine (blank_any _ _).mono ?_
              rintro e w' ⟨rfl, rfl⟩
              rw [HB.out]
              go_wp2
              go_round
              case rel =>
                refine ⟨n, by omega, by omega, by go_num, fun j b hj hbj => ?_⟩
                by_cases e : j = n
                · subst e
                  have : s.data.toList[j]? = some s[j] := by rw [List.getElem?_eq_getElem (by simpa using hn)]; rfl
                  rw [this] at hbj
                  obtain rfl := Option.some.inj hbj
                  exact HB.out
                · exact H3.out j b (by omega) hbj
              case measure => simp [intOf]
          · obtain rfl : k = m := by omega
            have HT : Hid (ByteArray.empty = trimT s) := by
              have e := trim_extract s k k (trim_between _ k k (Nat.le_refl _) (by simpa using hm) H1.out H2.out H3.out (fun b h => absurd h (Nat.lt_irrefl _)))
              have e0 : s.extract k k = ByteArray.empty := by simp
              exact e0.symm.trans e
            go_wp2
            go_ret
            exact ⟨ret_str HT.out, rfl⟩
      · clear hgo
        go_wp2
        go_loop [4] (fun i => ∃ m : Nat, k ≤ m ∧ m ≤ s.size ∧ i = .int .i64 m ∧ ∀ (j : Nat) b, m ≤ j → s.data.toList[j]? = some b → blankI (b.toNat : Int) = true) (fun i => (intOf i).toNat)
        case atStart => exact ⟨s.size, hk, Nat.le_refl _, rfl, fun j b hj hb => absurd (List.getElem?_eq_some_iff.1 hb).1 (by simp; omega)⟩
        case round =>
          obtain ⟨m, hkm, hm, rfl, hall⟩ := hrel
          have H3 : Hid (∀ (j : Nat) b, m ≤ j → s.data.toList[j]? = some b → blankI (b.toNat : Int) = true) := hall
          clear hall
          obtain rfl : k = m := by omega
          have HT : Hid (ByteArray.empty = trimT s) := by
            have e := trim_extract s k k (trim_between _ k k (Nat.le_refl _) (by simpa using hm) H1.out H2.out H3.out (fun b h => absurd h (Nat.lt_irrefl _)))
            have e0 : s.extract k k = ByteArray.empty := by simp
            exact e0.symm.trans e
          go_wp2
          go_ret
          exact ⟨ret_str HT.out, rfl⟩
theorem l1Trim_any (s : ByteArray) (w : World) (hs : s.size ≤ 1000) :
    Calls Tryd.prog 74 #[.string s] w fun e w' => e = .returned (.string (trimT s)) ∧ w' = w := l1Trim_big s w (by omega)
end Go.Proofs.YtelbddgdaibolaaDoor
/-
  What the model's l4Line and HeadersFault answer.
-/
namespace Go.Proofs.YtelbddgdaibolaaDoor
open Go.ChangeShapes Go.WideShapes Go.ChangeAt Go.RowKit
theorem hstr_ne {a b : ByteArray} (h : a ≠ b) : (a.toList == b.toList) = false := by
  rw [beq_eq_false_iff_ne]
  intro e
  rw [ByteArray.toList_eq, ByteArray.toList_eq] at e
  exact h (ByteArray.ext (Array.ext' e))
set_option maxHeartbeats 2000000 in
theorem l4Line_any (r : Hdr) (w : World) :
    Calls Tryd.prog 60 #[.agg #[.string r.name, .string r.value]] w fun e w' => e = .returned (.int .i64 (faultH r)) ∧ Below w.heap.size w w' := by
  obtain ⟨n, v⟩ := r
  simp only
  have kb : Below w.heap.size w (w.alloc (.cells #[.string n, .string v] 98)) := (Below.refl _ _).alloc (Nat.le_refl _) _
  have KB : Hid (Below w.heap.size w (w.alloc (.cells #[.string n, .string v] 98))) := kb
  clear kb
  have HW : Hid (∀ w, Calls Tryd.prog 72 #[.string n] w fun e w' => e = .returned (.bool (wordS n)) ∧ w' = w) := specIsWord_any n
  cases hw : wordS n
  · have HE : Hid (faultH ⟨n, v⟩ = 5) := by show _ = _; simp [faultH, hw]
    rw [hw] at HW
    clear hw
    go_enter Tryd.func60, Tryd.ntmps60
    go_wp2_with fail
    refine (HW.out _).mono ?_
    rintro e w1 ⟨rfl, rfl⟩
    go_wp2_with fail
    go_ret
    exact ⟨ret_int HE.out.symm, KB.out⟩
  rw [hw] at HW
  by_cases hbig : 200 < v.size
  · have HE : Hid (faultH ⟨n, v⟩ = 2) := by show _ = _; simp only [faultH, hw]; rw [if_neg (by simp), if_pos hbig]
    have g : (200 : Int) < v.size := by omega
    clear hw
    go_enter Tryd.func60, Tryd.ntmps60
    go_wp2_with fail
    refine (HW.out _).mono ?_
    rintro e w1 ⟨rfl, rfl⟩
    go_wp2_with fail
    go_ret
    exact ⟨ret_int HE.out.symm, KB.out⟩
  have g : ¬ (200 : Int) < v.size := by omega
  have HP : Hid (∀ w, Calls Tryd.prog 73 #[.string v] w fun e w' => e = .returned (.bool (plainL v.data.toList)) ∧ w' = w) := fun w => plainText_any v w (by omega)
  have HT : Hid (∀ w, Calls Tryd.prog 74 #[.string v] w fun e w' => e = .returned (.string (trimT v)) ∧ w' = w) := fun w => l1Trim_any v w (by omega)
  cases hp : plainL v.data.toList
  · have HE : Hid (faultH ⟨n, v⟩ = 5) := by show _ = _; simp only [faultH, hw]; rw [if_neg (by simp), if_neg hbig, if_pos hp]
    rw [hp] at HP
    clear hw hp hbig
    go_enter Tryd.func60, Tryd.ntmps60
    go_wp2_with fail
    refine (HW.out _).mono ?_
    rintro e w1 ⟨rfl, rfl⟩
    go_wp2_with fail
    refine (HP.out _).mono ?_
    rintro e w1 ⟨rfl, rfl⟩
    go_wp2_with fail
    go_ret
    exact ⟨ret_int HE.out.symm, KB.out⟩
  rw [hp] at HP
  by_cases ht : trimT v = v
  · have HE : Hid (faultH ⟨n, v⟩ = 0) := by show _ = _; simp only [faultH, hw]; rw [if_neg (by simp), if_neg hbig, if_neg (by simp [hp]), if_pos ht]
    rw [ht] at HT
    clear hw hp hbig ht
    go_enter Tryd.func60, Tryd.ntmps60
    go_wp2_with fail
    refine (HW.out _).mono ?_
    rintro e w1 ⟨rfl, rfl⟩
    go_wp2_with fail
    refine (HP.out _).mono ?_
    rintro e w1 ⟨rfl, rfl⟩
    go_wp2_with fail
    refine (HT.out _).mono ?_
    rintro e w1 ⟨rfl, rfl⟩
    go_wp2_with fail
    go_ret
    exact ⟨ret_int HE.out.symm, KB.out⟩
  · have HE : Hid (faultH ⟨n, v⟩ = 5) := by show _ = _; simp only [faultH, hw]; rw [if_neg (by simp), if_neg hbig, if_neg (by simp [hp]), if_neg ht]
    have hq := hstr_ne ht
    generalize trimT v = t at *
    clear hw hp hbig ht
    go_enter Tryd.func60, Tryd.ntmps60
    go_wp2_with fail
    refine (HW.out _).mono ?_
    rintro e w1 ⟨rfl, rfl⟩
    go_wp2_with fail
    refine (HP.out _).mono ?_
    rintro e w1 ⟨rfl, rfl⟩
    go_wp2_with fail
    refine (HT.out _).mono ?_
    rintro e w1 ⟨rfl, rfl⟩
    go_wp2_with fail
    go_ret
    exact ⟨ret_int HE.out.symm, KB.out⟩
set_option maxRecDepth 100000 in
set_option maxHeartbeats 4000000 in
theorem specHFault_any (w : World) (a : Option Addr) (cap : Nat) (l : List Hdr) (hl : l.length ≤ 1048576) (hi : HdsIn w a l) :
    Calls Tryd.prog 32 #[.slice a l.length cap] w fun e w' => e = .returned (.int .i64 (headsC l)) ∧ Below w.heap.size w w' := by
  by_cases h20 : 20 < l.length
  · have HE : Hid (headsC l = 2) := headsC_many h20
    have g : (20 : Int) < (l.length : Int) := by omega
    clear hi
    generalize l.length = n at *
    go_enter Tryd.func32, Tryd.ntmps32
    go_wp2_with fail
    go_ret
    exact ⟨ret_int HE.out.symm, Below.refl _ _⟩
  have HC : Hid (headsC l = faultHL l) := headsC_few h20
  have HI : Hid (HdsIn w a l) := hi
  clear hi
  generalize hn : l.length = n at *
  have HN : Hid (l.length = n) := hn
  clear hn
  have g : ¬ (20 : Int) < (n : Int) := by omega
  go_enter Tryd.func32, Tryd.ntmps32
  go_wp2_with fail
  go_loopw [3] (fun i wr => ∃ k : Nat, k ≤ n ∧ i = .int .i64 k ∧ faultHL l = faultHL (l.drop k) ∧ Below w.heap.size w wr) (fun i _ => n - (intOf i).toNat)
  case atStart => exact ⟨0, Nat.zero_le _, rfl, rfl, Below.refl _ _⟩
  case round =>
    obtain ⟨k, hk, rfl, hf, hb⟩ := hrel
    have HF : Hid (faultHL l = faultHL (l.drop k)) := hf
    clear hf
    by_cases hlt : k < n
    · obtain ⟨r, hr⟩ : ∃ r, l[k]? = some r := ⟨l[k]'(by have := HN.out; omega), List.getElem?_eq_getElem _⟩
      rcases HI.out with h | ⟨b, off, rfl, hat⟩
      · subst h; simp at hr
      obtain ⟨p1, p3⟩ := (hat.keep hb) k r hr
      have HD : Hid (l.drop k = r :: l.drop (k + 1)) := drop_hdr l k r hr
      have gk : (k : Int) < n := by omega
      have SF : Hid (∀ w, Calls Tryd.prog 60 #[.agg #[.string r.name, .string r.value]] w fun e w' => e = .returned (.int .i64 (faultH r)) ∧ Below w.heap.size w w') := l4Line_any r
      clear hr hat HI
      by_cases hfr : faultH r = 0
      · have HX : Hid (faultHL l = faultHL (l.drop (k + 1))) := by show _ = _; rw [HF.out, HD.out, faultHL_ok hfr]
        rw [hfr] at SF
        clear hfr HD HF
        obtain ⟨rn, rv⟩ := r
        simp only at p1 p3 SF
        go_wp2_with fail
        refine (SF.out _).mono ?_
        rintro e w2 ⟨rfl, hb2⟩
        have hbb := hb.trans (hb2.mono hb.size)
        clear hb2 hb
        go_wp2_with fail
        go_roundw
        case rel => exact ⟨k + 1, by omega, by go_num, HX.out, hbb⟩
        case measure => simp [intOf]; omega
      · have HX : Hid (headsC l = faultH r) := by show _ = _; rw [HC.out, HF.out, HD.out, faultHL_bad hfr]
        clear HD HF HC
        obtain ⟨rn, rv⟩ := r
        simp only at p1 p3 SF
        generalize faultH ⟨rn, rv⟩ = fr at *
        go_wp2_with fail
        refine (SF.out _).mono ?_
        rintro e w2 ⟨rfl, hb2⟩
        have hbb := hb.trans (hb2.mono hb.size)
        clear hb2 hb
        go_wp2_with fail
        go_ret
        exact ⟨ret_int HX.out.symm, hbb⟩
    · have HX : Hid (headsC l = 0) := by
        show _ = _
        rw [HC.out, HF.out, List.drop_of_length_le (by have := HN.out; omega)]
        rfl
      clear HF HC
      go_wp2_with fail
      go_ret
      exact ⟨ret_int HX.out.symm, hb⟩
end Go.Proofs.YtelbddgdaibolaaDoor
/-
  Is it an entry? The specification's answer.
-/
namespace Go.Proofs.YtelbddgdaibolaaDoor
open Go.ChangeShapes Go.WideShapes Go.ChangeAt Go.RowKit Go.Sort
def stB (st : Int) : Bool := decide (st = 200) || decide (st = 404) || decide (st = 410)
def pinB (p : Int) : Bool := decide (0 ≤ p) && decide (p ≤ 20)
def entryC (key : ByteArray) (st pins : Int) (hs : List Hdr) (bn tn : Nat) (t g l s e : Int) : Int :=
  if key.size < 1 ∨ 500 < key.size then 2 else
  if (stB st && pinB pins) = false then 3 else
  if headsC hs ≠ 0 then headsC hs else
  if 2000 < bn ∨ 10 < tn then 2 else metaC t g l s e
set_option maxHeartbeats 8000000 in
theorem specEntry_any (w : World) (key : ByteArray) (st : Int) (ha : Option Addr) (hc : Nat) (ba : Option Addr) (bc : Nat) (t g l s e : Int) (b1 b2 : Bool) (ta : Option Addr) (tc : Nat) (pins : Int) (hs : List Hdr) (bn tn : Nat) (hk : key.size ≤ maxLen) (hhl : hs.length ≤ 1048576) (hbn : bn ≤ maxLen) (htn : tn ≤ maxLen) (hH : HdsIn w ha hs) :
    Calls Tryd.prog 9 #[.agg #[.string key, .int .i64 st, .slice ha hs.length hc, .slice ba bn bc, .int .i64 t, .int .i64 g, .int .i64 l, .int .i64 s, .int .i64 e, .bool b1, .bool b2, .slice ta tn tc, .int .i64 pins]] w fun r w' => r = .returned (.int .i64 (entryC key st pins hs bn tn t g l s e)) ∧ Below w.heap.size w w' := by
  have HK : Hid (Below w.heap.size w (w.alloc (.cells #[.string key, .int .i64 st, .slice ha hs.length hc, .slice ba bn bc, .int .i64 t, .int .i64 g, .int .i64 l, .int .i64 s, .int .i64 e, .bool b1, .bool b2, .slice ta tn tc, .int .i64 pins] 34)) ∧ E13 (w.alloc (.cells #[.string key, .int .i64 st, .slice ha hs.length hc, .slice ba bn bc, .int .i64 t, .int .i64 g, .int .i64 l, .int .i64 s, .int .i64 e, .bool b1, .bool b2, .slice ta tn tc, .int .i64 pins] 34)) w.heap.size (.string key) (.int .i64 st) (.slice ha hs.length hc) (.slice ba bn bc) (.int .i64 t) (.int .i64 g) (.int .i64 l) (.int .i64 s) (.int .i64 e) (.bool b1) (.bool b2) (.slice ta tn tc) (.int .i64 pins)) := ⟨(Below.refl _ _).alloc (Nat.le_refl _) _, E13.new w _ _ _ _ _ _ _ _ _ _ _ _ _ _⟩
  have HI : Hid (∀ w, Calls Tryd.prog 31 #[.int .i64 pins, .int .i64 0, .int .i64 20] w fun r w' => r = .returned (.bool (pinB pins)) ∧ w' = w) := l1In_all pins 0 20
  have HH : Hid (∀ X, Below w.heap.size w X → Calls Tryd.prog 32 #[.slice ha hs.length hc] X fun e w' => e = .returned (.int .i64 (headsC hs)) ∧ Below X.heap.size X w') := fun X hb => specHFault_any X ha hc hs hhl (hH.keep hb)
  have HM : Hid (∀ X, Calls Tryd.prog 33 #[.agg #[.int .i64 t, .int .i64 g, .int .i64 l, .int .i64 s, .int .i64 e, .bool b1, .bool b2]] X fun r w' => r = .returned (.int .i64 (metaC t g l s e)) ∧ Below X.heap.size X w') := fun X => specMeta_any t g l s e b1 b2 X
  obtain ⟨Z, hZ⟩ : ∃ Z, entryC key st pins hs bn tn t g l s e = Z := ⟨_, rfl⟩
  rw [hZ]
  unfold entryC at hZ
  obtain ⟨hcd, hhc⟩ : ∃ x, headsC hs = x := ⟨_, rfl⟩
  obtain ⟨mcd, hmc⟩ : ∃ x, metaC t g l s e = x := ⟨_, rfl⟩
  obtain ⟨pb, hpb⟩ : ∃ x, pinB pins = x := ⟨_, rfl⟩
  rw [hhc] at HH hZ
  rw [hmc] at HM hZ
  rw [hpb] at HI hZ
  clear hhc hmc hpb hH hhl
  generalize hs.length = hl at *
  unfold maxLen at hk hbn htn
  have HZ : Hid (_ = Z) := hZ
  clear hZ
  by_cases c1 : key.size < 1
  · have HR := HZ.out
    rw [if_pos (.inl c1)] at HR
    rw [← HR]
    clear HR HZ
    go_enter Tryd.func9, Tryd.ntmps9
    go_wp2_with fail
    go_ret
    exact ⟨rfl, HK.out.1⟩
  by_cases c2 : 500 < key.size
  · have HR := HZ.out
    rw [if_pos (.inr c2)] at HR
    rw [← HR]
    clear HR HZ
    go_enter Tryd.func9, Tryd.ntmps9
    go_wp2_with fail
    go_ret
    exact ⟨rfl, HK.out.1⟩
  rw [if_neg (by omega)] at HZ
  by_cases hst : stB st = false
  · have HR := HZ.out
    rw [if_pos (by rw [hst]; rfl)] at HR
    rw [← HR]
    clear HR HZ
    unfold stB at hst
    have n1 : st ≠ 200 := fun q => by subst q; simp at hst
    have n2 : st ≠ 404 := fun q => by subst q; simp at hst
    have n3 : st ≠ 410 := fun q => by subst q; simp at hst
    clear hst
    go_enter Tryd.func9, Tryd.ntmps9
    go_wp2_with fail
    go_ret
    exact ⟨rfl, HK.out.1⟩
  have hst1 : stB st = true := by cases q : stB st <;> simp_all
  clear hst
  rw [hst1, Bool.true_and] at HZ
  have three : st = 200 ∨ st = 404 ∨ st = 410 := by unfold stB at hst1; simp at hst1; omega
  clear hst1
  rcases three with h | h | h
  · subst h
    cases pb
    · have HR := HZ.out
      rw [if_pos rfl] at HR
      rw [← HR]
      clear HR HZ
      go_enter Tryd.func9, Tryd.ntmps9
      go_wp2_with fail
      refine (HI.out _).mono ?_
      rintro r w1 ⟨rfl, rfl⟩
      go_wp2_with fail
      go_ret
      exact ⟨rfl, HK.out.1⟩
    rw [if_neg (by decide)] at HZ
    have HE : Hid (∀ X, Below w.heap.size w X → Calls Tryd.prog 32 #[.slice ha hl hc] X fun e w' => e = .returned (.int .i64 hcd) ∧ Below X.heap.size X w') := HH
    by_cases c3 : hcd ≠ 0
    · have HR := HZ.out
      rw [if_pos c3] at HR
      rw [← HR]
      clear HR HZ
      go_enter Tryd.func9, Tryd.ntmps9
      go_wp2_with fail
      refine (HI.out _).mono ?_
      rintro r w1 ⟨rfl, rfl⟩
      have q2 := HK.out.2.c2
      go_wp2_with fail
      refine (HH.out _ HK.out.1).mono ?_
      rintro r w2 ⟨rfl, hb2⟩
      have HB2 : Hid (Below w.heap.size w w2) := HK.out.1.trans (hb2.mono HK.out.1.size)
      clear hb2
      go_wp2_with fail
      go_ret
      exact ⟨rfl, HB2.out⟩
    rw [if_neg c3] at HZ
    have c3' : hcd = 0 := by omega
    subst c3'
    clear c3 HE
    by_cases c4 : 2000 < bn
    · have HR := HZ.out
      rw [if_pos (.inl c4)] at HR
      rw [← HR]
      clear HR HZ
      go_enter Tryd.func9, Tryd.ntmps9
      go_wp2_with fail
      refine (HI.out _).mono ?_
      rintro r w1 ⟨rfl, rfl⟩
      have q2 := HK.out.2.c2
      go_wp2_with fail
      refine (HH.out _ HK.out.1).mono ?_
      rintro r w2 ⟨rfl, hb2⟩
      have HK2 : Hid (Below w.heap.size w w2 ∧ E13 w2 w.heap.size (.string key) (.int .i64 200) (.slice ha hl hc) (.slice ba bn bc) (.int .i64 t) (.int .i64 g) (.int .i64 l) (.int .i64 s) (.int .i64 e) (.bool b1) (.bool b2) (.slice ta tn tc) (.int .i64 pins)) := ⟨HK.out.1.trans (hb2.mono HK.out.1.size), HK.out.2.keep hb2⟩
      clear hb2
      have k3 := HK2.out.2.c3
      have k4 := HK2.out.2.c4
      have k5 := HK2.out.2.c5
      have k6 := HK2.out.2.c6
      have k7 := HK2.out.2.c7
      have k8 := HK2.out.2.c8
      have k9 := HK2.out.2.c9
      have k10 := HK2.out.2.c10
      have k11 := HK2.out.2.c11
      go_wp2_with fail
      go_ret
      exact ⟨rfl, HK2.out.1⟩
    by_cases c5 : 10 < tn
    · have HR := HZ.out
      rw [if_pos (.inr c5)] at HR
      rw [← HR]
      clear HR HZ
      go_enter Tryd.func9, Tryd.ntmps9
      go_wp2_with fail
      refine (HI.out _).mono ?_
      rintro r w1 ⟨rfl, rfl⟩
      have q2 := HK.out.2.c2
      go_wp2_with fail
      refine (HH.out _ HK.out.1).mono ?_
      rintro r w2 ⟨rfl, hb2⟩
      have HK2 : Hid (Below w.heap.size w w2 ∧ E13 w2 w.heap.size (.string key) (.int .i64 200) (.slice ha hl hc) (.slice ba bn bc) (.int .i64 t) (.int .i64 g) (.int .i64 l) (.int .i64 s) (.int .i64 e) (.bool b1) (.bool b2) (.slice ta tn tc) (.int .i64 pins)) := ⟨HK.out.1.trans (hb2.mono HK.out.1.size), HK.out.2.keep hb2⟩
      clear hb2
      have k3 := HK2.out.2.c3
      have k4 := HK2.out.2.c4
      have k5 := HK2.out.2.c5
      have k6 := HK2.out.2.c6
      have k7 := HK2.out.2.c7
      have k8 := HK2.out.2.c8
      have k9 := HK2.out.2.c9
      have k10 := HK2.out.2.c10
      have k11 := HK2.out.2.c11
      go_wp2_with fail
      go_ret
      exact ⟨rfl, HK2.out.1⟩
    rw [if_neg (by omega)] at HZ
    · rw [← HZ.out]
      clear HZ
      go_enter Tryd.func9, Tryd.ntmps9
      go_wp2_with fail
      refine (HI.out _).mono ?_
      rintro r w1 ⟨rfl, rfl⟩
      have q2 := HK.out.2.c2
      go_wp2_with fail
      refine (HH.out _ HK.out.1).mono ?_
      rintro r w2 ⟨rfl, hb2⟩
      have HK2 : Hid (Below w.heap.size w w2 ∧ E13 w2 w.heap.size (.string key) (.int .i64 200) (.slice ha hl hc) (.slice ba bn bc) (.int .i64 t) (.int .i64 g) (.int .i64 l) (.int .i64 s) (.int .i64 e) (.bool b1) (.bool b2) (.slice ta tn tc) (.int .i64 pins)) := ⟨HK.out.1.trans (hb2.mono HK.out.1.size), HK.out.2.keep hb2⟩
      clear hb2
      have k3 := HK2.out.2.c3
      have k4 := HK2.out.2.c4
      have k5 := HK2.out.2.c5
      have k6 := HK2.out.2.c6
      have k7 := HK2.out.2.c7
      have k8 := HK2.out.2.c8
      have k9 := HK2.out.2.c9
      have k10 := HK2.out.2.c10
      have k11 := HK2.out.2.c11
      go_wp2_with fail
      refine (HM.out _).mono ?_
      rintro r w3 ⟨rfl, hb3⟩
      have HB3 : Hid (Below w.heap.size w w3) := HK2.out.1.trans (hb3.mono HK2.out.1.size)
      clear hb3
      go_wp2_with fail
      go_ret
      exact ⟨rfl, HB3.out⟩
  · subst h
    cases pb
    · have HR := HZ.out
      rw [if_pos rfl] at HR
      rw [← HR]
      clear HR HZ
      go_enter Tryd.func9, Tryd.ntmps9
      go_wp2_with fail
      refine (HI.out _).mono ?_
      rintro r w1 ⟨rfl, rfl⟩
      go_wp2_with fail
      go_ret
      exact ⟨rfl, HK.out.1⟩
    rw [if_neg (by decide)] at HZ
    have HE : Hid (∀ X, Below w.heap.size w X → Calls Tryd.prog 32 #[.slice ha hl hc] X fun e w' => e = .returned (.int .i64 hcd) ∧ Below X.heap.size X w') := HH
    by_cases c3 : hcd ≠ 0
    · have HR := HZ.out
      rw [if_pos c3] at HR
      rw [← HR]
      clear HR HZ
      go_enter Tryd.func9, Tryd.ntmps9
      go_wp2_with fail
      refine (HI.out _).mono ?_
      rintro r w1 ⟨rfl, rfl⟩
      have q2 := HK.out.2.c2
      go_wp2_with fail
      refine (HH.out _ HK.out.1).mono ?_
      rintro r w2 ⟨rfl, hb2⟩
      have HB2 : Hid (Below w.heap.size w w2) := HK.out.1.trans (hb2.mono HK.out.1.size)
      clear hb2
      go_wp2_with fail
      go_ret
      exact ⟨rfl, HB2.out⟩
    rw [if_neg c3] at HZ
    have c3' : hcd = 0 := by omega
    subst c3'
    clear c3 HE
    by_cases c4 : 2000 < bn
    · have HR := HZ.out
      rw [if_pos (.inl c4)] at HR
      rw [← HR]
      clear HR HZ
      go_enter Tryd.func9, Tryd.ntmps9
      go_wp2_with fail
      refine (HI.out _).mono ?_
      rintro r w1 ⟨rfl, rfl⟩
      have q2 := HK.out.2.c2
      go_wp2_with fail
      refine (HH.out _ HK.out.1).mono ?_
      rintro r w2 ⟨rfl, hb2⟩
      have HK2 : Hid (Below w.heap.size w w2 ∧ E13 w2 w.heap.size (.string key) (.int .i64 404) (.slice ha hl hc) (.slice ba bn bc) (.int .i64 t) (.int .i64 g) (.int .i64 l) (.int .i64 s) (.int .i64 e) (.bool b1) (.bool b2) (.slice ta tn tc) (.int .i64 pins)) := ⟨HK.out.1.trans (hb2.mono HK.out.1.size), HK.out.2.keep hb2⟩
      clear hb2
      have k3 := HK2.out.2.c3
      have k4 := HK2.out.2.c4
      have k5 := HK2.out.2.c5
      have k6 := HK2.out.2.c6
      have k7 := HK2.out.2.c7
      have k8 := HK2.out.2.c8
      have k9 := HK2.out.2.c9
      have k10 := HK2.out.2.c10
      have k11 := HK2.out.2.c11
      go_wp2_with fail
      go_ret
      exact ⟨rfl, HK2.out.1⟩
    by_cases c5 : 10 < tn
    · have HR := HZ.out
      rw [if_pos (.inr c5)] at HR
      rw [← HR]
      clear HR HZ
      go_enter Tryd.func9, Tryd.ntmps9
      go_wp2_with fail
      refine (HI.out _).mono ?_
      rintro r w1 ⟨rfl, rfl⟩
      have q2 := HK.out.2.c2
      go_wp2_with fail
      refine (HH.out _ HK.out.1).mono ?_
      rintro r w2 ⟨rfl, hb2⟩
      have HK2 : Hid (Below w.heap.size w w2 ∧ E13 w2 w.heap.size (.string key) (.int .i64 404) (.slice ha hl hc) (.slice ba bn bc) (.int .i64 t) (.int .i64 g) (.int .i64 l) (.int .i64 s) (.int .i64 e) (.bool b1) (.bool b2) (.slice ta tn tc) (.int .i64 pins)) := ⟨HK.out.1.trans (hb2.mono HK.out.1.size), HK.out.2.keep hb2⟩
      clear hb2
      have k3 := HK2.out.2.c3
      have k4 := HK2.out.2.c4
      have k5 := HK2.out.2.c5
      have k6 := HK2.out.2.c6
      have k7 := HK2.out.2.c7
      have k8 := HK2.out.2.c8
      have k9 := HK2.out.2.c9
      have k10 := HK2.out.2.c10
      have k11 := HK2.out.2.c11
      go_wp2_with fail
      go_ret
      exact ⟨rfl, HK2.out.1⟩
    rw [if_neg (by omega)] at HZ
    · rw [← HZ.out]
      clear HZ
      go_enter Tryd.func9, Tryd.ntmps9
      go_wp2_with fail
      refine (HI.out _).mono ?_
      rintro r w1 ⟨rfl, rfl⟩
      have q2 := HK.out.2.c2
      go_wp2_with fail
      refine (HH.out _ HK.out.1).mono ?_
      rintro r w2 ⟨rfl, hb2⟩
      have HK2 : Hid (Below w.heap.size w w2 ∧ E13 w2 w.heap.size (.string key) (.int .i64 404) (.slice ha hl hc) (.slice ba bn bc) (.int .i64 t) (.int .i64 g) (.int .i64 l) (.int .i64 s) (.int .i64 e) (.bool b1) (.bool b2) (.slice ta tn tc) (.int .i64 pins)) := ⟨HK.out.1.trans (hb2.mono HK.out.1.size), HK.out.2.keep hb2⟩
      clear hb2
      have k3 := HK2.out.2.c3
      have k4 := HK2.out.2.c4
      have k5 := HK2.out.2.c5
      have k6 := HK2.out.2.c6
      have k7 := HK2.out.2.c7
      have k8 := HK2.out.2.c8
      have k9 := HK2.out.2.c9
      have k10 := HK2.out.2.c10
      have k11 := HK2.out.2.c11
      go_wp2_with fail
      refine (HM.out _).mono ?_
      rintro r w3 ⟨rfl, hb3⟩
      have HB3 : Hid (Below w.heap.size w w3) := HK2.out.1.trans (hb3.mono HK2.out.1.size)
      clear hb3
      go_wp2_with fail
      go_ret
      exact ⟨rfl, HB3.out⟩
  · subst h
    cases pb
    · have HR := HZ.out
      rw [if_pos rfl] at HR
      rw [← HR]
      clear HR HZ
      go_enter Tryd.func9, Tryd.ntmps9
      go_wp2_with fail
      refine (HI.out _).mono ?_
      rintro r w1 ⟨rfl, rfl⟩
      go_wp2_with fail
      go_ret
      exact ⟨rfl, HK.out.1⟩
    rw [if_neg (by decide)] at HZ
    have HE : Hid (∀ X, Below w.heap.size w X → Calls Tryd.prog 32 #[.slice ha hl hc] X fun e w' => e = .returned (.int .i64 hcd) ∧ Below X.heap.size X w') := HH
    by_cases c3 : hcd ≠ 0
    · have HR := HZ.out
      rw [if_pos c3] at HR
      rw [← HR]
      clear HR HZ
      go_enter Tryd.func9, Tryd.ntmps9
      go_wp2_with fail
      refine (HI.out _).mono ?_
      rintro r w1 ⟨rfl, rfl⟩
      have q2 := HK.out.2.c2
      go_wp2_with fail
      refine (HH.out _ HK.out.1).mono ?_
      rintro r w2 ⟨rfl, hb2⟩
      have HB2 : Hid (Below w.heap.size w w2) := HK.out.1.trans (hb2.mono HK.out.1.size)
      clear hb2
      go_wp2_with fail
      go_ret
      exact ⟨rfl, HB2.out⟩
    rw [if_neg c3] at HZ
    have c3' : hcd = 0 := by omega
    subst c3'
    clear c3 HE
    by_cases c4 : 2000 < bn
    · have HR := HZ.out
      rw [if_pos (.inl c4)] at HR
      rw [← HR]
      clear HR HZ
      go_enter Tryd.func9, Tryd.ntmps9
      go_wp2_with fail
      refine (HI.out _).mono ?_
      rintro r w1 ⟨rfl, rfl⟩
      have q2 := HK.out.2.c2
      go_wp2_with fail
      refine (HH.out _ HK.out.1).mono ?_
      rintro r w2 ⟨rfl, hb2⟩
      have HK2 : Hid (Below w.heap.size w w2 ∧ E13 w2 w.heap.size (.string key) (.int .i64 410) (.slice ha hl hc) (.slice ba bn bc) (.int .i64 t) (.int .i64 g) (.int .i64 l) (.int .i64 s) (.int .i64 e) (.bool b1) (.bool b2) (.slice ta tn tc) (.int .i64 pins)) := ⟨HK.out.1.trans (hb2.mono HK.out.1.size), HK.out.2.keep hb2⟩
      clear hb2
      have k3 := HK2.out.2.c3
      have k4 := HK2.out.2.c4
      have k5 := HK2.out.2.c5
      have k6 := HK2.out.2.c6
      have k7 := HK2.out.2.c7
      have k8 := HK2.out.2.c8
      have k9 := HK2.out.2.c9
      have k10 := HK2.out.2.c10
      have k11 := HK2.out.2.c11
      go_wp2_with fail
      go_ret
      exact ⟨rfl, HK2.out.1⟩
    by_cases c5 : 10 < tn
    · have HR := HZ.out
      rw [if_pos (.inr c5)] at HR
      rw [← HR]
      clear HR HZ
      go_enter Tryd.func9, Tryd.ntmps9
      go_wp2_with fail
      refine (HI.out _).mono ?_
      rintro r w1 ⟨rfl, rfl⟩
      have q2 := HK.out.2.c2
      go_wp2_with fail
      refine (HH.out _ HK.out.1).mono ?_
      rintro r w2 ⟨rfl, hb2⟩
      have HK2 : Hid (Below w.heap.size w w2 ∧ E13 w2 w.heap.size (.string key) (.int .i64 410) (.slice ha hl hc) (.slice ba bn bc) (.int .i64 t) (.int .i64 g) (.int .i64 l) (.int .i64 s) (.int .i64 e) (.bool b1) (.bool b2) (.slice ta tn tc) (.int .i64 pins)) := ⟨HK.out.1.trans (hb2.mono HK.out.1.size), HK.out.2.keep hb2⟩
      clear hb2
      have k3 := HK2.out.2.c3
      have k4 := HK2.out.2.c4
      have k5 := HK2.out.2.c5
      have k6 := HK2.out.2.c6
      have k7 := HK2.out.2.c7
      have k8 := HK2.out.2.c8
      have k9 := HK2.out.2.c9
      have k10 := HK2.out.2.c10
      have k11 := HK2.out.2.c11
      go_wp2_with fail
      go_ret
      exact ⟨rfl, HK2.out.1⟩
    rw [if_neg (by omega)] at HZ
    · rw [← HZ.out]
      clear HZ
      go_enter Tryd.func9, Tryd.ntmps9
      go_wp2_with fail
      refine (HI.out _).mono ?_
      rintro r w1 ⟨rfl, rfl⟩
      have q2 := HK.out.2.c2
      go_wp2_with fail
      refine (HH.out _ HK.out.1).mono ?_
      rintro r w2 ⟨rfl, hb2⟩
      have HK2 : Hid (Below w.heap.size w w2 ∧ E13 w2 w.heap.size (.string key) (.int .i64 410) (.slice ha hl hc) (.slice ba bn bc) (.int .i64 t) (.int .i64 g) (.int .i64 l) (.int .i64 s) (.int .i64 e) (.bool b1) (.bool b2) (.slice ta tn tc) (.int .i64 pins)) := ⟨HK.out.1.trans (hb2.mono HK.out.1.size), HK.out.2.keep hb2⟩
      clear hb2
      have k3 := HK2.out.2.c3
      have k4 := HK2.out.2.c4
      have k5 := HK2.out.2.c5
      have k6 := HK2.out.2.c6
      have k7 := HK2.out.2.c7
      have k8 := HK2.out.2.c8
      have k9 := HK2.out.2.c9
      have k10 := HK2.out.2.c10
      have k11 := HK2.out.2.c11
      go_wp2_with fail
      refine (HM.out _).mono ?_
      rintro r w3 ⟨rfl, hb3⟩
      have HB3 : Hid (Below w.heap.size w w3) := HK2.out.1.trans (hb3.mono HK2.out.1.size)
      clear hb3
      go_wp2_with fail
      go_ret
      exact ⟨rfl, HB3.out⟩
end Go.Proofs.YtelbddgdaibolaaDoor
/-
  The room of a TextResult behind a call.
-/
namespace Go.Proofs.YtelbddgdaibolaaDoor
open Go.ChangeShapes Go.WideShapes Go.ChangeAt Go.RowKit
theorem text_room {w w1 : World} (hb : Below (w.heap.size + 1) (w.alloc (.cells #[.int .i64 0, .string ⟨#[]⟩] 106)) w1) :
    w.heap.size < w1.heap.size ∧ w1.cell? ⟨w.heap.size, 0, none⟩ = some (.int .i64 0) ∧ w1.cell? ⟨w.heap.size, 1, none⟩ = some (.string ⟨#[]⟩) ∧ w1.frozen? ⟨w.heap.size, 0, none⟩ = false ∧ w1.frozen? ⟨w.heap.size, 1, none⟩ = false ∧ Below w.heap.size w w1 := by
  have hz := hb.size
  simp only [World.size_alloc] at hz
  exact ⟨hz, by rw [hb.cell (p := ⟨w.heap.size, 0, none⟩) (Nat.lt_succ_self _)]; simp, by rw [hb.cell (p := ⟨w.heap.size, 1, none⟩) (Nat.lt_succ_self _)]; simp, by rw [hb.frozen (p := ⟨w.heap.size, 0, none⟩) (Nat.lt_succ_self _)]; simp, by rw [hb.frozen (p := ⟨w.heap.size, 1, none⟩) (Nat.lt_succ_self _)]; simp, ((Below.refl _ _).alloc (Nat.le_refl _) _).trans (hb.mono (Nat.le_succ _))⟩
end Go.Proofs.YtelbddgdaibolaaDoor
/-
  What the model of PackHeaders tells.
-/
namespace Go.Proofs.YtelbddgdaibolaaDoor
open Go.ChangeShapes Go.WideShapes Go.ChangeAt Go.RowKit Go.Sort
theorem HdsIn.ok {w : World} {a : Option Addr} {l : List Hdr} (h : HdsIn w a l) {k : Nat} {r : Hdr} (hr : l[k]? = some r) : ∃ b off, a = some ⟨b, off, none⟩ ∧ HeadsAt w b off l := by
  rcases h with h | h
  · subst h; simp at hr
  · exact h
theorem line_app (o n v : ByteArray) : (o ++ n ++ ⟨#[58, 32]⟩ ++ v ++ ⟨#[13, 10]⟩ : ByteArray).data.toList = o.data.toList ++ lineL ⟨n, v⟩ := by
  simp only [happ_list, lineL, List.append_assoc]
theorem line_app2 (o n v : ByteArray) : (o ++ (n ++ ⟨#[58, 32]⟩ ++ v ++ ⟨#[13, 10]⟩) : ByteArray).data.toList = o.data.toList ++ lineL ⟨n, v⟩ := by
  simp only [happ_list, lineL, List.append_assoc]
set_option maxRecDepth 100000 in
set_option maxHeartbeats 4000000 in
/-- Lines that have no fault, told. -/
theorem l4Pack_any (w : World) (a : Option Addr) (cap : Nat) (l : List Hdr) (h20 : l.length ≤ 100) (hf : ∀ (i : Nat) r, l[i]? = some r → r.name.size ≤ 1100 ∧ r.value.size ≤ 1100) (hi : HdsIn w a l) :
    Calls Tryd.prog 66 #[.slice a l.length cap] w fun e w' => e = .returned (.string ⟨(packL l).toArray⟩) ∧ Below w.heap.size w w' := by
  have HI : Hid (HdsIn w a l) := hi
  have HF : Hid (∀ (i : Nat) r, l[i]? = some r → r.name.size ≤ 1100 ∧ r.value.size ≤ 1100) := hf
  clear hi hf
  generalize hn : l.length = n at *
  have HN : Hid (l.length = n) := hn
  clear hn
  go_enter Tryd.func66, Tryd.ntmps66
  go_wp2_with fail
  go_loopw [3, 4] (fun v i wr => ∃ (k : Nat) (o : ByteArray), k ≤ n ∧ i = .int .i64 k ∧ v = .string o ∧ o.data.toList = packL (l.take k) ∧ o.size ≤ k * 2300 ∧ Below w.heap.size w wr) (fun _ i _ => n - (intOf i).toNat)
  case atStart => exact ⟨0, ⟨#[]⟩, Nat.zero_le _, rfl, rfl, rfl, Nat.zero_le _, Below.refl _ _⟩
  case round =>
    obtain ⟨k, o, hk, rfl, rfl, ho, hos, hb⟩ := hrel
    have HO : Hid (o.data.toList = packL (l.take k)) := ho
    clear ho
    by_cases hlt : k < n
    · obtain ⟨r, hr⟩ : ∃ r, l[k]? = some r := ⟨l[k]'(by have := HN.out; omega), List.getElem?_eq_getElem _⟩
      obtain ⟨b, off, rfl, hat⟩ := HI.out.ok hr
      obtain ⟨p1, p3⟩ := (hat.keep hb) k r hr
      obtain ⟨z1, z2⟩ := HF.out k r hr
      have HJ : Hid (packL (l.take (k + 1)) = packL (l.take k) ++ lineL r) := packL_take hr
      have x1 := cell_regrown p1
      have x3 := cell_regrown p3
      have g0 : (0 : Int) ≤ k := by omega
      have gk : (k : Int) < n := by omega
      clear hr hat HI p1 p3 HF
      obtain ⟨rn, rv⟩ := r
      simp only at x1 x3 z1 z2
      have hoz : o.size ≤ 230000 := by omega
      have HT : Hid ((o ++ rn ++ ⟨#[58, 32]⟩ ++ rv ++ ⟨#[13, 10]⟩ : ByteArray).data.toList = packL (l.take (k + 1))) := by
        show _ = _
        rw [HJ.out, line_app, HO.out]
      have zz : (⟨#[58, 32]⟩ : ByteArray).size = 2 := rfl
      have zy : (⟨#[13, 10]⟩ : ByteArray).size = 2 := rfl
      have a1 := fun w => run_string_add_sum (P := Tryd.prog) (w := w) o rn (by omega)
      have s1 : (o ++ rn).size = o.size + rn.size := ByteArray.size_append
      have a2 := fun w => run_string_add_sum (P := Tryd.prog) (w := w) (o ++ rn) ⟨#[58, 32]⟩ (by omega)
      have s2 : (o ++ rn ++ ⟨#[58, 32]⟩ : ByteArray).size = o.size + rn.size + 2 := by rw [ByteArray.size_append, s1, zz]
      have a3 := fun w => run_string_add_sum (P := Tryd.prog) (w := w) (o ++ rn ++ ⟨#[58, 32]⟩) rv (by omega)
      have s3 : (o ++ rn ++ ⟨#[58, 32]⟩ ++ rv : ByteArray).size = o.size + rn.size + 2 + rv.size := by rw [ByteArray.size_append, s2]
      have a4 := fun w => run_string_add_sum (P := Tryd.prog) (w := w) (o ++ rn ++ ⟨#[58, 32]⟩ ++ rv) ⟨#[13, 10]⟩ (by omega)
      have s4 : (o ++ rn ++ ⟨#[58, 32]⟩ ++ rv ++ ⟨#[13, 10]⟩ : ByteArray).size = o.size + rn.size + 2 + rv.size + 2 := by rw [ByteArray.size_append, s3, zy]
      have HU : Hid ((o ++ rn ++ ⟨#[58, 32]⟩ ++ rv ++ ⟨#[13, 10]⟩ : ByteArray).size ≤ (k + 1) * 2300) := by
        show _ ≤ _
        rw [s4]; omega
      clear s1 s2 s3 s4 zz zy
      clear HJ HO
      generalize (o ++ rn ++ ⟨#[58, 32]⟩ ++ rv ++ ⟨#[13, 10]⟩ : ByteArray) = q4 at *
      generalize (o ++ rn ++ ⟨#[58, 32]⟩ ++ rv : ByteArray) = q3 at *
      generalize (o ++ rn ++ ⟨#[58, 32]⟩ : ByteArray) = q2 at *
      generalize (o ++ rn : ByteArray) = q1 at *
      go_wp2_with fail
      refine wp_region_quiet_below (by kernel_rfl) (by kernel_rfl) ?_
      repeat (go_big_quiet_step (fail))
      refine wpQuiet_nil ?_
      intro w2 hw2
      have hbb : Below w.heap.size w w2 := by
        obtain ⟨⟨d, os⟩, rfl⟩ := hw2
        exact hb.trans ((below_regrown wr d os).mono hb.size)
      clear x1 x3 hw2 hb a1 a2 a3 a4
      go_wp2_with fail
      go_roundw
      case rel => exact ⟨k + 1, q4, by omega, by go_num, rfl, HT.out, HU.out, hbb⟩
      case measure => simp [intOf]; omega
    · have HT : Hid ((⟨(packL l).toArray⟩ : ByteArray) = o) := by
        show _ = _
        rw [← List.take_of_length_le (l := l) (i := k) (by have := HN.out; omega), ← HO.out]
      clear HO
      go_wp2_with fail
      go_ret
      exact ⟨ret_str HT.out.symm, hb⟩
end Go.Proofs.YtelbddgdaibolaaDoor
/-
  Head lines read from a text, plainly. No Go in sight.
-/
namespace Go.Proofs.YtelbddgdaibolaaDoor
/-- Where the first bytes 13 and 10 stand; the length where there are none. -/
def crAt : List UInt8 → Nat
  | [] => 0
  | [_] => 1
  | c :: d :: r => if c = 13 ∧ d = 10 then 0 else 1 + crAt (d :: r)
theorem crAt_le : ∀ l : List UInt8, crAt l ≤ l.length
  | [] => Nat.le_refl _
  | [_] => Nat.le_refl _
  | c :: d :: r => by
    have := crAt_le (d :: r)
    rw [crAt]
    split
    · exact Nat.zero_le _
    · simp only [List.length_cons] at this ⊢; omega
theorem crAt_room : ∀ l : List UInt8, crAt l < l.length → crAt l + 2 ≤ l.length
  | [], h => by simp [crAt] at h
  | [_], h => by simp [crAt] at h
  | c :: d :: r, h => by
    rw [crAt] at h ⊢
    by_cases e : c = 13 ∧ d = 10
    · rw [if_pos e]; simp only [List.length_cons]; omega
    · rw [if_neg e] at h ⊢
      have := crAt_room (d :: r) (by simp only [List.length_cons] at h ⊢; omega)
      simp only [List.length_cons] at this ⊢; omega
theorem crAt_on : ∀ (l : List UInt8) (k : Nat), k ≤ crAt l → (h : k + 1 < l.length) → (l[k] = 13 ∧ l[k + 1] = 10 → crAt l = k) ∧ (¬ (l[k] = 13 ∧ l[k + 1] = 10) → k + 1 ≤ crAt l)
  | [], k, _, h => by simp at h
  | [_], k, _, h => by simp at h
  | c :: d :: r, 0, _, h => by
    refine ⟨fun e => ?_, fun e => ?_⟩
    · rw [crAt, if_pos (by simpa using e)]
    · rw [crAt, if_neg (by simpa using e)]; omega
  | c :: d :: r, k + 1, hk, h => by
    rw [crAt] at hk ⊢
    by_cases e : c = 13 ∧ d = 10
    · rw [if_pos e] at hk; omega
    · rw [if_neg e] at hk ⊢
      have ih := crAt_on (d :: r) k (by omega) (by simp only [List.length_cons] at h ⊢; omega)
      refine ⟨fun x => ?_, fun x => ?_⟩
      · have := ih.1 (by simpa using x); omega
      · have := ih.2 (by simpa using x); omega
theorem crAt_end (l : List UInt8) (k : Nat) (hk : k ≤ crAt l) (h : ¬ k + 1 < l.length) : crAt l = l.length := by
  have h1 := crAt_le l
  by_cases c : crAt l < l.length
  · have := crAt_room l c; omega
  · omega
theorem crAt_is : ∀ l : List UInt8, crAt l < l.length → ([13, 10] : List UInt8).isPrefixOf (l.drop (crAt l)) = true
  | [], h => by simp [crAt] at h
  | [_], h => by simp [crAt] at h
  | c :: d :: r, h => by
    rw [crAt] at h ⊢
    by_cases e : c = 13 ∧ d = 10
    · rw [if_pos e]; simp [e.1, e.2, List.isPrefixOf]
    · rw [if_neg e] at h ⊢
      have := crAt_is (d :: r) (by simp only [List.length_cons] at h ⊢; omega)
      rw [show 1 + crAt (d :: r) = crAt (d :: r) + 1 from by omega, List.drop_succ_cons]
      exact this
theorem crAt_not : ∀ (l : List UInt8) (j : Nat), j < crAt l → ([13, 10] : List UInt8).isPrefixOf (l.drop j) = false
  | [], j, h => by simp [crAt] at h
  | [x], j, h => by
    have : j = 0 := by simp [crAt] at h; omega
    subst this
    simp [List.isPrefixOf]
  | c :: d :: r, j, h => by
    rw [crAt] at h
    by_cases e : c = 13 ∧ d = 10
    · rw [if_pos e] at h; omega
    · rw [if_neg e] at h
      cases j with
      | zero =>
        simp only [List.drop_zero, List.isPrefixOf, Bool.and_true]
        by_cases e1 : c = 13
        · have e2 : ¬ d = 10 := fun x => e ⟨e1, x⟩
          have : ((10 : UInt8) == d) = false := by rw [beq_eq_false_iff_ne]; exact fun x => e2 x.symm
          rw [this, Bool.and_false]
        · have : ((13 : UInt8) == c) = false := by rw [beq_eq_false_iff_ne]; exact fun x => e1 x.symm
          rw [this, Bool.false_and]
      | succ j => rw [List.drop_succ_cons]; exact crAt_not (d :: r) j (by omega)
theorem index_cr (l : List UInt8) : Lib.index l [13, 10] = if crAt l < l.length then (crAt l : Int) else -1 := by
  by_cases h : crAt l < l.length
  · rw [if_pos h]
    exact Lib.index_first (Nat.le_of_lt h) (crAt_is l h) (fun j hj => crAt_not l j hj)
  · rw [if_neg h]
    have e : crAt l = l.length := by have := crAt_le l; omega
    refine Lib.index_none fun j hj => ?_
    by_cases c : j < crAt l
    · exact crAt_not l j c
    · have : j = l.length := by omega
      subst this
      simp [Lib.occAt]
theorem cut_cr {l : List UInt8} (h : crAt l < l.length) : Lib.cut l [13, 10] = (l.take (crAt l), l.drop (crAt l + 2), true) := by
  unfold Lib.cut
  rw [index_cr, if_pos h, if_pos (by omega)]
  rfl
/-- Where the first colon stands; the length where there is none. -/
def clAt : List UInt8 → Nat
  | [] => 0
  | c :: r => if c = 58 then 0 else 1 + clAt r
theorem clAt_le : ∀ l : List UInt8, clAt l ≤ l.length
  | [] => Nat.le_refl _
  | c :: r => by
    have := clAt_le r
    rw [clAt]
    split
    · exact Nat.zero_le _
    · simp only [List.length_cons]; omega
theorem clAt_on : ∀ (l : List UInt8) (k : Nat), k ≤ clAt l → (h : k < l.length) → (l[k] = 58 → clAt l = k) ∧ (¬ l[k] = 58 → k + 1 ≤ clAt l)
  | [], k, _, h => by simp at h
  | c :: r, 0, _, h => by
    refine ⟨fun e => ?_, fun e => ?_⟩
    · rw [clAt, if_pos (by simpa using e)]
    · rw [clAt, if_neg (by simpa using e)]; omega
  | c :: r, k + 1, hk, h => by
    rw [clAt] at hk ⊢
    by_cases e : c = 58
    · rw [if_pos e] at hk; omega
    · rw [if_neg e] at hk ⊢
      have ih := clAt_on r k (by omega) (by simp only [List.length_cons] at h; omega)
      refine ⟨fun x => ?_, fun x => ?_⟩
      · have := ih.1 (by simpa using x); omega
      · have := ih.2 (by simpa using x); omega
theorem index_cl : ∀ l : List UInt8, Lib.index l [58] = if clAt l < l.length then (clAt l : Int) else -1
  | [] => by simp [Lib.index, clAt]
  | c :: r => by
    have ih := index_cl r
    rw [Lib.index, clAt]
    by_cases h : c = 58
    · rw [if_pos (by simp [List.isPrefixOf, h]), if_pos h]; simp
    · have h2 : ([58] : List UInt8).isPrefixOf (c :: r) = false := by
        simp only [List.isPrefixOf, Bool.and_true, beq_eq_false_iff_ne]
        exact fun x => h x.symm
      rw [h2, if_neg h, ih]
      by_cases q : clAt r < r.length
      · have q2 : 1 + clAt r < (c :: r).length := by simp only [List.length_cons]; omega
        have e1 : ((clAt r : Int) == -1) = false := by rw [beq_eq_false_iff_ne]; omega
        simp only [Bool.false_eq_true, if_false, if_pos q, if_pos q2, e1]
        omega
      · have q2 : ¬ 1 + clAt r < (c :: r).length := by simp only [List.length_cons]; omega
        simp only [Bool.false_eq_true, if_false, if_neg q, if_neg q2]
        rfl
theorem cut_cl {l : List UInt8} (h : clAt l < l.length) : Lib.cut l [58] = (l.take (clAt l), l.drop (clAt l + 1), true) := by
  unfold Lib.cut
  rw [index_cl, if_pos h, if_pos (by omega)]
  rfl
theorem cut_cl_no {l : List UInt8} (h : ¬ clAt l < l.length) : Lib.cut l [58] = (l, [], false) := by
  unfold Lib.cut
  rw [index_cl, if_neg h, if_neg (by omega)]
def hmk (p : List UInt8) : ByteArray := ⟨p.toArray⟩
theorem hmk_size (p : List UInt8) : (hmk p).size = p.length := by simp [hmk, ByteArray.size]
theorem hmk_list (p : List UInt8) : (hmk p).data.toList = p := by simp [hmk]
def lineOf (p : List UInt8) : Hdr := ⟨hmk (p.take (clAt p)), trimT (hmk (p.drop (clAt p + 1)))⟩
def lineR (p : List UInt8) : Option Hdr := if clAt p < p.length then some (lineOf p) else none
theorem lineR_yes {p : List UInt8} (h : clAt p < p.length) : lineR p = some (lineOf p) := by unfold lineR; rw [if_pos h]
theorem lineR_no {p : List UInt8} (h : ¬ clAt p < p.length) : lineR p = none := by unfold lineR; rw [if_neg h]
/-- The lines that the bytes 13 and 10 end; none: the last one is not ended. -/
def linesO (l : List UInt8) : Option (List (List UInt8)) :=
  if _h : l = [] then some [] else if crAt l < l.length then (linesO (l.drop (crAt l + 2))).map (l.take (crAt l) :: ·) else none
termination_by l.length
decreasing_by
  have := List.length_pos_iff.2 _h
  simp only [List.length_drop]; omega
theorem linesO_nil : linesO [] = some [] := by rw [linesO]; simp
theorem linesO_cut {l : List UInt8} (h : crAt l < l.length) : linesO l = (linesO (l.drop (crAt l + 2))).map (l.take (crAt l) :: ·) := by
  have h0 : ¬ l = [] := fun e => by subst e; simp [crAt] at h
  rw [linesO, dif_neg h0, if_pos h]
theorem linesO_bad {l : List UInt8} (h0 : ¬ l = []) (h : ¬ crAt l < l.length) : linesO l = none := by
  rw [linesO, dif_neg h0, if_neg h]
theorem linesO_len : ∀ (n : Nat) (l : List UInt8) (P : List (List UInt8)), l.length ≤ n → linesO l = some P → P.length ≤ l.length ∧ ∀ p ∈ P, p.length ≤ l.length := by
  intro n
  induction n with
  | zero =>
    intro l P hn h
    have : l = [] := List.eq_nil_of_length_eq_zero (by omega)
    subst this
    rw [linesO_nil] at h
    obtain rfl := Option.some.inj h
    simp
  | succ n ih =>
    intro l P hn h
    by_cases h0 : l = []
    · subst h0
      rw [linesO_nil] at h
      obtain rfl := Option.some.inj h
      simp
    · by_cases hc : crAt l < l.length
      · rw [linesO_cut hc] at h
        obtain ⟨Q, hQ, rfl⟩ := Option.map_eq_some_iff.1 h
        have hl := List.length_pos_iff.2 h0
        have := ih _ Q (by simp only [List.length_drop]; omega) hQ
        simp only [List.length_drop] at this
        refine ⟨by simp only [List.length_cons]; omega, fun p hp => ?_⟩
        rcases List.mem_cons.1 hp with rfl | hp
        · simp only [List.length_take]; omega
        · have := this.2 p hp; omega
      · rw [linesO_bad h0 hc] at h; cases h
theorem suffix_far {a b : UInt8} {p r : List UInt8} (h : 2 ≤ r.length) : ([a, b].isSuffixOf (p ++ r)) = ([a, b].isSuffixOf r) := by
  rw [Bool.eq_iff_iff, List.isSuffixOf_iff_suffix, List.isSuffixOf_iff_suffix]
  constructor
  · intro hs
    exact List.suffix_of_suffix_length_le hs (List.suffix_append _ _) (by simpa using h)
  · intro hs
    exact hs.trans (List.suffix_append _ _)
theorem linesO_suffix : ∀ (n : Nat) (l : List UInt8), l.length ≤ n → ¬ l = [] → (linesO l).isSome = ([13, 10] : List UInt8).isSuffixOf l := by
  intro n
  induction n with
  | zero => intro l hn h0; exact absurd (List.eq_nil_of_length_eq_zero (by omega)) h0
  | succ n ih =>
    intro l hn h0
    by_cases hc : crAt l < l.length
    · have hr := crAt_room l hc
      have hi := crAt_is l hc
      rw [linesO_cut hc, Option.isSome_map]
      have e : l = l.take (crAt l) ++ ([13, 10] ++ l.drop (crAt l + 2)) := by
        have h1 := (List.take_append_drop (crAt l) l).symm
        obtain ⟨t, ht⟩ := List.isPrefixOf_iff_prefix.1 hi
        have h2 : t = l.drop (crAt l + 2) := by
          have := congrArg (List.drop 2) ht
          simp only [List.drop_drop] at this
          simpa using this
        rw [← h2, ht]
        exact h1
      by_cases h3 : l.drop (crAt l + 2) = []
      · rw [h3, linesO_nil]
        rw [h3] at e
        symm
        rw [Option.isSome_some, List.isSuffixOf_iff_suffix, e]
        exact List.suffix_append _ _
      · rw [ih _ (by simp only [List.length_drop]; have := List.length_pos_iff.2 h0; omega) h3]
        generalize l.drop (crAt l + 2) = r at *
        generalize l.take (crAt l) = p at *
        subst e
        by_cases h4 : 2 ≤ r.length
        · rw [← List.append_assoc, suffix_far h4]
        · match r, h3, h4 with
          | [x], _, _ =>
            rw [Bool.eq_iff_iff, List.isSuffixOf_iff_suffix, List.isSuffixOf_iff_suffix]
            constructor
            · intro hs; have := hs.length_le; simp at this
            · rintro ⟨q, hq⟩
              have hq2 : (q ++ [13]) ++ [10] = (p ++ [13]) ++ ([10] ++ [x]) := by simpa using hq
              have h5 := congrArg List.reverse hq2
              simp at h5
          | _ :: _ :: _, _, h4 => exact absurd (by simp) h4
    · rw [linesO_bad h0 hc]
      symm
      rw [Option.isSome_none]
      cases hs : ([13, 10] : List UInt8).isSuffixOf l
      · rfl
      · obtain ⟨q, hq⟩ := List.isSuffixOf_iff_suffix.1 hs
        have hl : l.length = q.length + 2 := by rw [← hq]; simp
        have := crAt_le l
        have hn2 := crAt_not l q.length (by omega)
        rw [← hq] at hn2
        simp [List.isPrefixOf] at hn2
/-- All lines read. -/
def readLs : List (List UInt8) → Option (List Hdr)
  | [] => some []
  | p :: ps => match lineR p with
    | none => none
    | some r => (readLs ps).map (r :: ·)
theorem readLs_bad {p : List UInt8} {ps : List (List UInt8)} (h : ¬ clAt p < p.length) : readLs (p :: ps) = none := by rw [readLs, lineR_no h]
theorem readLs_take {p : List UInt8} {ps : List (List UInt8)} (h : clAt p < p.length) : readLs (p :: ps) = (readLs ps).map (lineOf p :: ·) := by rw [readLs, lineR_yes h]
def readT (l : List UInt8) : Option (List Hdr) := (linesO l).bind readLs
theorem readT_nil : readT [] = some [] := by unfold readT; rw [linesO_nil]; rfl
theorem readT_bad {l : List UInt8} (h : crAt l < l.length) (h2 : ¬ clAt (l.take (crAt l)) < (l.take (crAt l)).length) : readT l = none := by
  unfold readT
  rw [linesO_cut h]
  cases linesO (l.drop (crAt l + 2)) with
  | none => rfl
  | some P => simp only [Option.map_some, Option.bind_some]; rw [readLs_bad h2]
theorem readT_take {l : List UInt8} (h : crAt l < l.length) (h2 : clAt (l.take (crAt l)) < (l.take (crAt l)).length) : readT l = (readT (l.drop (crAt l + 2))).map (lineOf (l.take (crAt l)) :: ·) := by
  unfold readT
  rw [linesO_cut h]
  cases linesO (l.drop (crAt l + 2)) with
  | none => rfl
  | some P => simp only [Option.map_some, Option.bind_some]; rw [readLs_take h2]
def readHC (s : ByteArray) : Int := if 6000 < s.size then 2 else match readT s.data.toList with
  | none => 5
  | some L => headsC L
def readHL (s : ByteArray) : List Hdr := if 6000 < s.size then [] else match readT s.data.toList with
  | none => []
  | some L => if headsC L = 0 then L else []
theorem readH_long {s : ByteArray} (h : 6000 < s.size) : readHC s = 2 ∧ readHL s = [] := by unfold readHC readHL; rw [if_pos h, if_pos h]; exact ⟨rfl, rfl⟩
theorem readH_bad {s : ByteArray} (h : ¬ 6000 < s.size) (hr : readT s.data.toList = none) : readHC s = 5 ∧ readHL s = [] := by unfold readHC readHL; rw [if_neg h, if_neg h, hr]; exact ⟨rfl, rfl⟩
theorem readH_fault {s : ByteArray} {L : List Hdr} (h : ¬ 6000 < s.size) (hr : readT s.data.toList = some L) (hL : headsC L ≠ 0) : readHC s = headsC L ∧ readHL s = [] := by
  unfold readHC readHL; rw [if_neg h, if_neg h, hr]; exact ⟨rfl, if_neg hL⟩
theorem readH_ok {s : ByteArray} {L : List Hdr} (h : ¬ 6000 < s.size) (hr : readT s.data.toList = some L) (hL : headsC L = 0) : readHC s = 0 ∧ readHL s = L := by
  unfold readHC readHL; rw [if_neg h, if_neg h, hr]; exact ⟨hL, if_pos hL⟩
theorem readHL_len (s : ByteArray) : (readHL s).length ≤ 20 := by
  unfold readHL
  by_cases h : 6000 < s.size
  · rw [if_pos h]; exact Nat.zero_le _
  · rw [if_neg h]
    split
    · exact Nat.zero_le _
    · split
      · rename_i hc; exact (headsC_zero hc).1
      · exact Nat.zero_le _
end Go.Proofs.YtelbddgdaibolaaDoor
/-
  Head lines that were packed are read back, plainly. No Go in sight.
-/
namespace Go.Proofs.YtelbddgdaibolaaDoor
theorem trim_space {v : List UInt8} (h : Lib.trimS v [32, 9] = v) : Lib.trimS (32 :: v) [32, 9] = v := by
  unfold Lib.trimS Lib.trimLeftS Lib.trimRightS at *
  have p32 : ([32, 9] : List UInt8).contains 32 = true := by decide
  generalize hp : (fun x => ([32, 9] : List UInt8).contains x) = p at *
  have q32 : p 32 = true := by rw [← hp]; exact p32
  have l1 : ((v.reverse.dropWhile p).reverse.dropWhile p).length ≤ (v.reverse.dropWhile p).reverse.length := (List.dropWhile_sublist p).length_le
  have l2 : (v.reverse.dropWhile p).length ≤ v.reverse.length := (List.dropWhile_sublist p).length_le
  rw [h] at l1
  rw [List.length_reverse] at l1
  have e1 : v.reverse.dropWhile p = v.reverse := (List.dropWhile_sublist p).eq_of_length (by rw [List.length_reverse] at l2 ⊢; omega)
  rw [e1, List.reverse_reverse] at h
  cases hv : v.reverse with
  | nil =>
    have : v = [] := by simpa using hv
    subst this
    simp [q32]
  | cons x t =>
    rw [hv] at e1
    have hx : p x = false := by
      cases hpx : p x with
      | false => rfl
      | true =>
        rw [List.dropWhile_cons_of_pos hpx] at e1
        have := (List.dropWhile_sublist p (l := t)).length_le
        rw [e1, List.length_cons] at this
        omega
    have e2 : (32 :: v).reverse.dropWhile p = (32 :: v).reverse := by
      rw [List.reverse_cons, hv, List.cons_append, List.dropWhile_cons_of_neg (by rw [hx]; decide)]
    rw [e2, List.reverse_reverse, List.dropWhile_cons_of_pos q32]
    exact h
theorem crAt_line : ∀ (b r : List UInt8), (∀ c ∈ b, c ≠ 13) → crAt (b ++ 13 :: 10 :: r) = b.length
  | [], r, _ => by simp [crAt]
  | c :: b, r, h => by
    have ih := crAt_line b r (fun c hc => h c (by simp [hc]))
    obtain ⟨d, t, e⟩ : ∃ d t, b ++ 13 :: 10 :: r = d :: t := by cases b <;> simp
    rw [List.cons_append, e, crAt, if_neg (fun x => h c (by simp) x.1), ← e, ih]
    simp only [List.length_cons]; omega
theorem clAt_line : ∀ (n t : List UInt8), (∀ c ∈ n, c ≠ 58) → clAt (n ++ 58 :: t) = n.length
  | [], t, _ => by simp [clAt]
  | c :: n, t, h => by
    have ih := clAt_line n t (fun c hc => h c (by simp [hc]))
    rw [List.cons_append, clAt, if_neg (h c (by simp)), ih]
    simp only [List.length_cons]; omega
theorem word_mem {s : ByteArray} (h : wordS s = true) : ∀ c ∈ s.data.toList, c ≠ 58 ∧ c ≠ 13 := by
  have h2 : allW s.data.toList = true := by
    simp only [wordS, Bool.and_eq_true] at h
    exact h.2
  intro c hc
  have := List.all_eq_true.1 h2 c hc
  refine ⟨fun e => ?_, fun e => ?_⟩ <;> subst e <;> revert this <;> decide +kernel
theorem plain_mem {l : List UInt8} (h : plainL l = true) : ∀ c ∈ l, c ≠ 13 := by
  intro c hc e
  have := List.all_eq_true.1 h c hc
  subst e
  revert this
  decide
theorem lineOf_back {r : Hdr} (h : faultH r = 0) : lineOf (r.name.data.toList ++ 58 :: 32 :: r.value.data.toList) = r := by
  obtain ⟨hw, _, _, ht⟩ := faultH_zero h
  have hc := clAt_line r.name.data.toList (32 :: r.value.data.toList) (fun c hc => (word_mem hw c hc).1)
  unfold lineOf
  rw [hc, List.take_left]
  have e2 : (r.name.data.toList ++ 58 :: 32 :: r.value.data.toList).drop (r.name.data.toList.length + 1) = 32 :: r.value.data.toList := by
    rw [← List.drop_drop, List.drop_left]; rfl
  rw [e2]
  obtain ⟨n, v⟩ := r
  simp only at *
  have hn : hmk n.data.toList = n := (hof_list rfl).symm
  have hvv : trimT (hmk (32 :: v.data.toList)) = v := by
    have hv : Lib.trimS v.data.toList [32, 9] = v.data.toList := by
      have := congrArg (fun b : ByteArray => b.data.toList) ht
      simpa [trimT] using this
    unfold trimT
    rw [hmk_list, trim_space hv]
  rw [hn, hvv]
theorem read_pack : ∀ l : List Hdr, (∀ r ∈ l, faultH r = 0) → readT (packL l) = some l
  | [], _ => readT_nil
  | r :: l, h => by
    have ih := read_pack l (fun q hq => h q (by simp [hq]))
    have h0 := h r (by simp)
    obtain ⟨hw, hz, hp, ht⟩ := faultH_zero h0
    have hb := lineOf_back h0
    have hcl := clAt_line r.name.data.toList (32 :: r.value.data.toList) (fun c hc => (word_mem hw c hc).1)
    have e : packL (r :: l) = (r.name.data.toList ++ 58 :: 32 :: r.value.data.toList) ++ 13 :: 10 :: packL l := by simp [packL, lineL]
    have h13 : ∀ c ∈ r.name.data.toList ++ 58 :: 32 :: r.value.data.toList, c ≠ 13 := by
      intro c hc
      simp only [List.mem_append, List.mem_cons] at hc
      rcases hc with hc | rfl | rfl | hc
      · exact (word_mem hw c hc).2
      · decide
      · decide
      · exact plain_mem hp c hc
    have hlt : clAt (r.name.data.toList ++ 58 :: 32 :: r.value.data.toList) < (r.name.data.toList ++ 58 :: 32 :: r.value.data.toList).length := by rw [hcl]; simp only [List.length_append, List.length_cons]; omega
    rw [e]
    generalize r.name.data.toList ++ 58 :: 32 :: r.value.data.toList = b at *
    have hc := crAt_line b (packL l) h13
    have t1 : (b ++ 13 :: 10 :: packL l).take b.length = b := List.take_left
    have t2 : (b ++ 13 :: 10 :: packL l).drop (b.length + 2) = packL l := by rw [← List.drop_drop, List.drop_left]; rfl
    rw [readT_take (by rw [hc]; simp only [List.length_append, List.length_cons]; omega) (by rw [hc, t1]; exact hlt), hc, t1, t2, ih, hb]
    rfl
theorem packL_len4 : ∀ l : List Hdr, (∀ r ∈ l, faultH r = 0) → (packL l).length ≤ l.length * 268
  | [], _ => by simp [packL]
  | r :: l, h => by
    have ih := packL_len4 l (fun q hq => h q (by simp [hq]))
    have := lineL_len (h r (by simp))
    have e : packL (r :: l) = lineL r ++ packL l := by simp [packL]
    rw [e, List.length_append, List.length_cons]
    omega
theorem heads_mem {l : List Hdr} (h : headsC l = 0) : l.length ≤ 20 ∧ ∀ r ∈ l, faultH r = 0 := by
  obtain ⟨h1, h2⟩ := headsC_zero h
  refine ⟨h1, fun r hr => ?_⟩
  obtain ⟨i, hi⟩ := List.mem_iff_getElem?.1 hr
  exact h2 i r hi
theorem heads_of {l : List Hdr} (h1 : l.length ≤ 20) (h2 : ∀ r ∈ l, faultH r = 0) : headsC l = 0 := by rw [headsC_few (by omega)]; exact faultHL_of l h2
theorem pack_read {l : List Hdr} (h : headsC l = 0) : readHC (packT l) = 0 ∧ readHL (packT l) = l := by
  obtain ⟨h1, h2⟩ := heads_mem h
  have hl := packL_len4 l h2
  have hr := read_pack l h2
  rw [packT_ok h]
  exact readH_ok (by show ¬ 6000 < (packL l).toArray.size; rw [List.size_toArray]; omega) hr h
theorem read_heads {s : ByteArray} (h : readHC s = 0) : headsC (readHL s) = 0 := by
  by_cases c : 6000 < s.size
  · rw [(readH_long c).1] at h; omega
  · cases hr : readT s.data.toList with
    | none => rw [(readH_bad c hr).1] at h; omega
    | some L =>
      by_cases hL : headsC L = 0
      · rw [(readH_ok c hr hL).2]; exact hL
      · rw [(readH_fault c hr hL).1] at h; exact absurd h hL
end Go.Proofs.YtelbddgdaibolaaDoor
/-
  What an entry costs, by the specification.
-/
namespace Go.Proofs.YtelbddgdaibolaaDoor
open Go.ChangeShapes Go.WideShapes Go.ChangeAt Go.RowKit Go.Sort
/-- What an entry costs that has no fault. -/
def costN (key : ByteArray) (hs : List Hdr) (bn : Nat) : Int := 50 + ((key.size : Int) + ((packL hs).length : Int) + (bn : Int))
set_option maxHeartbeats 2000000 in
theorem l8Cost_at (w : World) (b off : Nat) (key : ByteArray) (ha : Option Addr) (hc : Nat) (hs : List Hdr) (ba : Option Addr) (bn bc : Nat)
    (h0 : w.cell? ⟨b, off, none⟩ = some (.string key)) (h2 : w.cell? ⟨b, off + 2, none⟩ = some (.slice ha hs.length hc)) (h3 : w.cell? ⟨b, off + 3, none⟩ = some (.slice ba bn bc))
    (hk : key.size ≤ 500) (hb : bn ≤ 2000) (hh : headsC hs = 0) (hH : HdsIn w ha hs) :
    Calls Tryd.prog 45 #[.pointer (some ⟨b, off, none⟩)] w fun r w' => r = .returned (.int .i64 (costN key hs bn)) ∧ Below w.heap.size w w' := by
  obtain ⟨h20, hfl⟩ := headsC_zero hh
  have hlen := packL_len4 hs (fun r hr => by obtain ⟨i, hi⟩ := List.mem_iff_getElem?.1 hr; exact hfl i r hi)
  have HC : Hid (∀ X, Below w.heap.size w X → Calls Tryd.prog 66 #[.slice ha hs.length hc] X fun e w' => e = .returned (.string ⟨(packL hs).toArray⟩) ∧ Below X.heap.size X w') := fun X hX => l4Pack_any X ha hc hs (by omega) (fun i r hr => by obtain ⟨x1, x2, _⟩ := faultH_zero (hfl i r hr); exact ⟨Nat.le_trans (hword_max x1) (by omega), by omega⟩) (hH.keep hX)
  have hsz : ((⟨(packL hs).toArray⟩ : ByteArray).size : Int) = ((packL hs).length : Int) := by simp [ByteArray.size]
  unfold costN
  have hlt : b < w.heap.size := block_lt_of_cell h0
  have HKS : Hid (∀ X, Below w.heap.size w X → X.cell? ⟨b, off, none⟩ = some (.string key) ∧ X.cell? ⟨b, off + 2, none⟩ = some (.slice ha hs.length hc) ∧ X.cell? ⟨b, off + 3, none⟩ = some (.slice ba bn bc)) := fun X hX => ⟨by rw [hX.cell (p := ⟨b, off, none⟩) hlt]; exact h0, by rw [hX.cell (p := ⟨b, off + 2, none⟩) hlt]; exact h2, by rw [hX.cell (p := ⟨b, off + 3, none⟩) hlt]; exact h3⟩
  generalize hP : (⟨(packL hs).toArray⟩ : ByteArray) = pk at *
  rw [← hsz]
  have hpk : pk.size ≤ 5360 := by omega
  clear hH hfl hlen hsz hh hP h20 h2 h3
  generalize hs.length = hl at *
  have B0 : Hid (Below w.heap.size w w.drew) := (Below.refl _ _).drew
  go_enter Tryd.func45, Tryd.ntmps45
  go_wp2_with fail
  go_region_held3 (fun X => X.cell? ⟨b, off, none⟩ = some (.string key) ∧ X.cell? ⟨b, off + 2, none⟩ = some (.slice ha hl hc) ∧ X.cell? ⟨b, off + 3, none⟩ = some (.slice ba bn bc))
    (first | exact HKS.out _ BA.out | exact HKS.out _ B0.out)
    (first | (go_at_call 66; refine (HC.out _ B0.out).mono ?_; rintro e0 wa ⟨rfl, hba⟩; have BA : Hid (Below w.heap.size w wa) := B0.out.trans (hba.mono B0.out.size); clear hba))
  all_goals
    have e1 : IntKind.i64.wrap ((key.size : Int) + (pk.size : Int)) = (key.size : Int) + (pk.size : Int) := by
      unfold IntKind.wrap; simp [IntKind.signed, IntKind.bits]; omega
    have e2 : IntKind.i64.wrap ((key.size : Int) + (pk.size : Int) + (bn : Int)) = (key.size : Int) + (pk.size : Int) + (bn : Int) := by
      unfold IntKind.wrap; simp [IntKind.signed, IntKind.bits]; omega
    have e3 : IntKind.i64.wrap (50 + ((key.size : Int) + (pk.size : Int) + (bn : Int))) = 50 + ((key.size : Int) + (pk.size : Int) + (bn : Int)) := by
      unfold IntKind.wrap; simp [IntKind.signed, IntKind.bits]; omega
    go_wp2_with fail
    rw [e1, e2, e3]
    go_ret
    exact ⟨rfl, BA.out⟩
end Go.Proofs.YtelbddgdaibolaaDoor
/-
  What is kept with an answer: ages and phases, on both sides.
-/
namespace Go.Proofs.YtelbddgdaibolaaDoor
open Go.ChangeShapes Go.WideShapes Go.ChangeAt Go.RowKit Go.Sort
theorem meta_ir (w w1 : World) (t g l s e : Int) (b1 b2 : Bool) (hb : Below (w.heap.size + 2) ((w.alloc (.cells #[.int .i64 t, .int .i64 g, .int .i64 l, .int .i64 s, .int .i64 e, .bool b1, .bool b2] 32)).alloc (.cells #[.int .i64 0, .int .i64 0] 39)) w1) : Below w.heap.size w w1 ∧ MetaAt w1 w.heap.size t g l s e b1 b2 ∧ IR w1 (w.heap.size + 1) (.int .i64 0) (.int .i64 0) := by
  obtain ⟨u, hu⟩ : ∃ X, X = w.alloc (.cells #[.int .i64 t, .int .i64 g, .int .i64 l, .int .i64 s, .int .i64 e, .bool b1, .bool b2] 32) := ⟨_, rfl⟩
  have a1 : Below w.heap.size w u := by rw [hu]; exact (Below.refl _ _).alloc (Nat.le_refl _) _
  have p1 : MetaAt u w.heap.size t g l s e b1 b2 := by rw [hu]; exact MetaAt.new w t g l s e b1 b2 _
  have ez : u.heap.size = w.heap.size + 1 := by rw [hu]; simp
  rw [← hu] at hb
  have i1 := IR.new u (.int .i64 0) (.int .i64 0) 39
  have a2 : Below u.heap.size u (u.alloc (.cells #[.int .i64 0, .int .i64 0] 39)) := (Below.refl _ _).alloc (Nat.le_refl _) _
  have hb' : Below (u.alloc (.cells #[.int .i64 0, .int .i64 0] 39)).heap.size (u.alloc (.cells #[.int .i64 0, .int .i64 0] 39)) w1 := by
    have : (u.alloc (.cells #[.int .i64 0, .int .i64 0] 39)).heap.size = w.heap.size + 2 := by simp [ez]
    rw [this]; exact hb
  refine ⟨a1.trans ((a2.mono a1.size).trans (hb.mono (by omega))), (p1.keep a2).keep hb', ?_⟩
  rw [← ez]
  exact i1.keep hb'
def firstP (b1 b2 : Bool) : Int := if b2 = true then 3 else if b1 = true then 2 else 1
end Go.Proofs.YtelbddgdaibolaaDoor
/-
  CostOf, by the specification.
-/
namespace Go.Proofs.YtelbddgdaibolaaDoor
open Go.ChangeShapes Go.WideShapes Go.ChangeAt Go.RowKit Go.Sort
theorem entryC_zero {key : ByteArray} {st pins : Int} {hs : List Hdr} {bn tn : Nat} {t g l s e : Int} (h : entryC key st pins hs bn tn t g l s e = 0) : (1 ≤ key.size ∧ key.size ≤ 500) ∧ stB st = true ∧ pinB pins = true ∧ headsC hs = 0 ∧ bn ≤ 2000 ∧ tn ≤ 10 ∧ metaC t g l s e = 0 := by
  unfold entryC at h
  split at h
  · omega
  split at h
  · omega
  split at h
  · contradiction
  split at h
  · omega
  rename_i c1 c2 c3 c4
  have hb : stB st = true ∧ pinB pins = true := by cases x : stB st <;> cases y : pinB pins <;> simp_all
  exact ⟨by omega, hb.1, hb.2, by omega, by omega, by omega, h⟩
set_option maxHeartbeats 8000000 in
theorem specCost_any (w : World) (key : ByteArray) (st : Int) (ha : Option Addr) (hc : Nat) (ba : Option Addr) (bc : Nat) (t g l s e : Int) (b1 b2 : Bool) (ta : Option Addr) (tc : Nat) (pins : Int) (hs : List Hdr) (bn tn : Nat) (hk : key.size ≤ maxLen) (hhl : hs.length ≤ 1048576) (hbn : bn ≤ maxLen) (htn : tn ≤ maxLen) (hH : HdsIn w ha hs) :
    Calls Tryd.prog 13 #[.agg #[.string key, .int .i64 st, .slice ha hs.length hc, .slice ba bn bc, .int .i64 t, .int .i64 g, .int .i64 l, .int .i64 s, .int .i64 e, .bool b1, .bool b2, .slice ta tn tc, .int .i64 pins]] w fun r w' => r = .returned (.agg #[.int .i64 (entryC key st pins hs bn tn t g l s e), .int .i64 (if entryC key st pins hs bn tn t g l s e = 0 then costN key hs bn else 0)]) ∧ Below w.heap.size w w' := by
  have HF : Hid (∀ X, Below w.heap.size w X → Calls Tryd.prog 9 #[.agg #[.string key, .int .i64 st, .slice ha hs.length hc, .slice ba bn bc, .int .i64 t, .int .i64 g, .int .i64 l, .int .i64 s, .int .i64 e, .bool b1, .bool b2, .slice ta tn tc, .int .i64 pins]] X fun r w' => r = .returned (.int .i64 (entryC key st pins hs bn tn t g l s e)) ∧ Below X.heap.size X w') := fun X hb => specEntry_any X key st ha hc ba bc t g l s e b1 b2 ta tc pins hs bn tn hk hhl hbn htn (hH.keep hb)
  have HC : Hid (entryC key st pins hs bn tn t g l s e = 0 → ∀ X, Below w.heap.size w X → E13 X w.heap.size (.string key) (.int .i64 st) (.slice ha hs.length hc) (.slice ba bn bc) (.int .i64 t) (.int .i64 g) (.int .i64 l) (.int .i64 s) (.int .i64 e) (.bool b1) (.bool b2) (.slice ta tn tc) (.int .i64 pins) → Calls Tryd.prog 45 #[.pointer (some ⟨w.heap.size, 0, none⟩)] X fun r w' => r = .returned (.int .i64 (costN key hs bn)) ∧ Below X.heap.size X w') := fun h0 X hb k => by
    obtain ⟨z1, _, _, z4, z5, _, _⟩ := entryC_zero h0
    exact l8Cost_at X w.heap.size 0 key ha hc hs ba bn bc k.c0 k.c2 k.c3 z1.2 z5 z4 (hH.keep hb)
  have K0 : Hid (Below w.heap.size w ((w.alloc (.cells #[.string key, .int .i64 st, .slice ha hs.length hc, .slice ba bn bc, .int .i64 t, .int .i64 g, .int .i64 l, .int .i64 s, .int .i64 e, .bool b1, .bool b2, .slice ta tn tc, .int .i64 pins] 34)).alloc (.cells #[.int .i64 0, .int .i64 0] 39)) ∧ E13 ((w.alloc (.cells #[.string key, .int .i64 st, .slice ha hs.length hc, .slice ba bn bc, .int .i64 t, .int .i64 g, .int .i64 l, .int .i64 s, .int .i64 e, .bool b1, .bool b2, .slice ta tn tc, .int .i64 pins] 34)).alloc (.cells #[.int .i64 0, .int .i64 0] 39)) w.heap.size (.string key) (.int .i64 st) (.slice ha hs.length hc) (.slice ba bn bc) (.int .i64 t) (.int .i64 g) (.int .i64 l) (.int .i64 s) (.int .i64 e) (.bool b1) (.bool b2) (.slice ta tn tc) (.int .i64 pins) ∧ IR ((w.alloc (.cells #[.string key, .int .i64 st, .slice ha hs.length hc, .slice ba bn bc, .int .i64 t, .int .i64 g, .int .i64 l, .int .i64 s, .int .i64 e, .bool b1, .bool b2, .slice ta tn tc, .int .i64 pins] 34)).alloc (.cells #[.int .i64 0, .int .i64 0] 39)) (w.heap.size + 1) (.int .i64 0) (.int .i64 0)) := by
    have b0 : Below w.heap.size w ((w.alloc (.cells #[.string key, .int .i64 st, .slice ha hs.length hc, .slice ba bn bc, .int .i64 t, .int .i64 g, .int .i64 l, .int .i64 s, .int .i64 e, .bool b1, .bool b2, .slice ta tn tc, .int .i64 pins] 34)).alloc (.cells #[.int .i64 0, .int .i64 0] 39)) := ((Below.refl _ _).alloc (Nat.le_refl _) _).alloc (by simp) _
    refine ⟨b0, (E13.new w _ _ _ _ _ _ _ _ _ _ _ _ _ _).keep ((Below.refl _ _).alloc (Nat.le_refl _) _), ?_⟩
    refine ⟨by simp, by simp, fun o => by simp, by simp⟩
  clear hH hk hbn htn hhl
  obtain ⟨fc, hfc⟩ : ∃ x, entryC key st pins hs bn tn t g l s e = x := ⟨_, rfl⟩
  rw [hfc] at HF HC ⊢
  clear hfc
  generalize hs.length = hl at *
  generalize costN key hs bn = cn at *
  by_cases c0 : fc = 0
  · subst c0
    have HC0 := HC.out rfl
    have HC1 : Hid (∀ X, Below w.heap.size w X → E13 X w.heap.size (.string key) (.int .i64 st) (.slice ha hl hc) (.slice ba bn bc) (.int .i64 t) (.int .i64 g) (.int .i64 l) (.int .i64 s) (.int .i64 e) (.bool b1) (.bool b2) (.slice ta tn tc) (.int .i64 pins) → Calls Tryd.prog 45 #[.pointer (some ⟨w.heap.size, 0, none⟩)] X fun r w' => r = .returned (.int .i64 cn) ∧ Below X.heap.size X w') := HC0
    clear HC HC0
    rw [if_pos rfl]
    go_enter Tryd.func13, Tryd.ntmps13
    go_wp2_with fail
    refine (HF.out _ K0.out.1).mono ?_
    rintro r w1 ⟨rfl, hb1⟩
    have K1 : Hid (Below w.heap.size w w1 ∧ E13 w1 w.heap.size (.string key) (.int .i64 st) (.slice ha hl hc) (.slice ba bn bc) (.int .i64 t) (.int .i64 g) (.int .i64 l) (.int .i64 s) (.int .i64 e) (.bool b1) (.bool b2) (.slice ta tn tc) (.int .i64 pins) ∧ IR w1 (w.heap.size + 1) (.int .i64 0) (.int .i64 0)) := ⟨K0.out.1.trans (hb1.mono K0.out.1.size), K0.out.2.1.keep hb1, K0.out.2.2.keep hb1⟩
    clear hb1 K0 HF
    go_wp2_with fail
    refine (HC1.out _ K1.out.1 K1.out.2.1).mono ?_
    rintro r w2 ⟨rfl, hb2⟩
    have K2 : Hid (Below w.heap.size w w2 ∧ E13 w2 w.heap.size (.string key) (.int .i64 st) (.slice ha hl hc) (.slice ba bn bc) (.int .i64 t) (.int .i64 g) (.int .i64 l) (.int .i64 s) (.int .i64 e) (.bool b1) (.bool b2) (.slice ta tn tc) (.int .i64 pins) ∧ IR w2 (w.heap.size + 1) (.int .i64 0) (.int .i64 0)) := ⟨K1.out.1.trans (hb2.mono K1.out.1.size), K1.out.2.1.keep hb2, K1.out.2.2.keep hb2⟩
    clear hb2 K1 HC1
    obtain ⟨r0, r1, rf, _⟩ := K2.out.2.2
    have rf0 := rf 0
    have rf1 := rf 1
    clear rf
    go_wp2_with fail
    refine bodyPost_ret (v := .agg #[.int .i64 0, .int .i64 cn]) ?_ rfl ⟨rfl, (K2.out.1.setCell (by simp) _).setCell (by simp) _⟩
    simp [results, Tryd.results13, go_sem, r0, r1]
  · rw [if_neg c0]
    clear HC
    go_enter Tryd.func13, Tryd.ntmps13
    go_wp2_with fail
    refine (HF.out _ K0.out.1).mono ?_
    rintro r w1 ⟨rfl, hb1⟩
    have K1 : Hid (Below w.heap.size w w1 ∧ E13 w1 w.heap.size (.string key) (.int .i64 st) (.slice ha hl hc) (.slice ba bn bc) (.int .i64 t) (.int .i64 g) (.int .i64 l) (.int .i64 s) (.int .i64 e) (.bool b1) (.bool b2) (.slice ta tn tc) (.int .i64 pins) ∧ IR w1 (w.heap.size + 1) (.int .i64 0) (.int .i64 0)) := ⟨K0.out.1.trans (hb1.mono K0.out.1.size), K0.out.2.1.keep hb1, K0.out.2.2.keep hb1⟩
    clear hb1 K0 HF
    obtain ⟨r0, r1, rf, _⟩ := K1.out.2.2
    have rf0 := rf 0
    have rf1 := rf 1
    clear rf
    go_wp2_with fail
    refine bodyPost_ret (v := .agg #[.int .i64 fc, .int .i64 0]) ?_ rfl ⟨rfl, (K1.out.1.setCell (by simp) _).setCell (by simp) _⟩
    simp [results, Tryd.results13, go_sem, r0, r1]
end Go.Proofs.YtelbddgdaibolaaDoor
/-
  What a store's fault is, plainly; what entries cost, by the model.
-/
namespace Go.Proofs.YtelbddgdaibolaaDoor
open Go.ChangeShapes Go.WideShapes Go.ChangeAt Go.RowKit Go.Sort
def entC (x : Ent) : Int := entryC x.key x.st x.pins x.hs x.bl.length x.ts.length x.t x.g x.l x.s x.e
def entN (x : Ent) : Int := costN x.key x.hs x.bl.length
def faultE : List Ent → Int
  | [] => 0
  | x :: l => if entC x ≠ 0 then entC x else faultE l
def costsE : List Ent → Int
  | [] => 0
  | x :: l => entN x + costsE l
def keysE (l : List Ent) : List (List UInt8) := l.map (fun x => x.key.toList)
def dupE (l : List Ent) : Bool := !decide (keysE l).Nodup
def storeC (bu gu : Int) (tl kl : List Ent) : Int :=
  if bu < 0 ∨ 1000000 < bu ∨ gu < 0 ∨ bu < gu then 3 else
  if 40 < tl.length + kl.length then 2 else
  if faultE (tl ++ kl) ≠ 0 then faultE (tl ++ kl) else
  if dupE (tl ++ kl) = true then 6 else
  if bu < costsE (tl ++ kl) ∨ gu < costsE kl then 7 else 0
theorem faultE_zero : ∀ {l : List Ent}, faultE l = 0 → ∀ x ∈ l, entC x = 0
  | [], _, x, hx => by simp at hx
  | y :: l, h, x, hx => by
    unfold faultE at h
    by_cases c : entC y = 0
    · rw [if_neg (by simpa using c)] at h
      rcases List.mem_cons.1 hx with rfl | hx
      · exact c
      · exact faultE_zero h x hx
    · rw [if_pos c] at h; exact absurd h c
theorem faultE_app (l m : List Ent) (h : faultE (l ++ m) = 0) : faultE l = 0 ∧ faultE m = 0 := by
  induction l with
  | nil => exact ⟨rfl, h⟩
  | cons x l ih =>
    simp only [List.cons_append, faultE] at h ⊢
    by_cases c : entC x = 0
    · rw [if_neg (by simpa using c)] at h ⊢; exact ih h
    · rw [if_pos c] at h; exact absurd h c
theorem entN_le {x : Ent} (h : entC x = 0) : 0 ≤ entN x ∧ entN x ≤ 8000 := by
  obtain ⟨z1, _, _, z4, z5, _, _⟩ := entryC_zero h
  obtain ⟨h20, hfl⟩ := headsC_zero z4
  have hlen := packL_len4 x.hs (fun r hr => by obtain ⟨i, hi⟩ := List.mem_iff_getElem?.1 hr; exact hfl i r hi)
  unfold entN costN
  omega
theorem costsE_le : ∀ (l : List Ent), (∀ x ∈ l, entC x = 0) → 0 ≤ costsE l ∧ costsE l ≤ 8000 * l.length
  | [], _ => ⟨by simp [costsE], by simp [costsE]⟩
  | x :: l, h => by
    have a := entN_le (h x (by simp))
    have b := costsE_le l (fun y hy => h y (by simp [hy]))
    simp only [costsE, List.length_cons]
    omega
theorem costsE_app (l m : List Ent) : costsE (l ++ m) = costsE l + costsE m := by
  induction l with
  | nil => simp [costsE]
  | cons x l ih => simp only [List.cons_append, costsE, ih]; omega
set_option maxRecDepth 100000 in
set_option maxHeartbeats 4000000 in
theorem l8Costs_any (w : World) (a : Option Addr) (cap : Nat) (l : List (Ent × EntR)) (hl : l.length ≤ 40) (hi : EntsIn w a l) (hz : ∀ q ∈ l, entC q.1 = 0) :
    Calls Tryd.prog 49 #[.slice a l.length cap] w fun e w' => e = .returned (.int .i64 (costsE (l.map Prod.fst))) ∧ Below w.heap.size w w' := by
  have HI : Hid (EntsIn w a l) := hi
  have HZ : Hid (∀ q ∈ l, entC q.1 = 0) := hz
  clear hi hz
  obtain ⟨S, hS⟩ : ∃ S, Hid (costsE (l.map Prod.fst) = S) := ⟨_, rfl⟩
  rw [hS.out]
  generalize hn : l.length = n at *
  have HN : Hid (l.length = n) := hn
  clear hn
  go_enter Tryd.func49, Tryd.ntmps49
  go_wp2_with fail
  go_loopw [3, 4] (fun x i wr => ∃ (k : Nat) (c : Int), k ≤ n ∧ i = .int .i64 k ∧ x = .int .i64 c ∧ 0 ≤ c ∧ c ≤ 8000 * k ∧ S = c + costsE ((l.map Prod.fst).drop k) ∧ Below w.heap.size w wr) (fun _ i _ => n - (intOf i).toNat)
  case atStart => exact ⟨0, 0, Nat.zero_le _, rfl, rfl, by omega, by omega, by rw [← hS.out]; simp, Below.refl _ _⟩
  case round =>
    obtain ⟨k, c, hk, rfl, rfl, c2, c3, hs, hb⟩ := hrel
    have HS : Hid (S = c + costsE ((l.map Prod.fst).drop k)) := hs
    clear hs hS
    by_cases hlt : k < n
    · obtain ⟨q, hr⟩ : ∃ r, l[k]? = some r := ⟨l[k]'(by have := HN.out; omega), List.getElem?_eq_getElem _⟩
      rcases HI.out with h | ⟨b, off, rfl, hat⟩
      · subst h; simp at hr
      have PC := (hat.keep hb).cells hr
      have hin := (hat.keep hb).in hr
      have h0 := HZ.out q (List.mem_of_getElem? hr)
      have hle := entN_le h0
      have HS2 : Hid (S = c + entN q.1 + costsE ((l.map Prod.fst).drop (k + 1))) := by
        show _ = _
        obtain ⟨hk2, hr2⟩ := List.getElem?_eq_some_iff.1 hr
        rw [HS.out, List.drop_eq_getElem_cons (i := k) (by simpa using hk2), costsE]
        simp [hr2]
        omega
      have C : Hid (Calls Tryd.prog 45 #[.pointer (some ⟨b, off + k * 13, none⟩)] wr fun r w' => r = .returned (.int .i64 (entN q.1)) ∧ Below wr.heap.size wr w') := by
        obtain ⟨z1, _, _, z4, z5, _, _⟩ := entryC_zero h0
        exact l8Cost_at wr b (off + k * 13) q.1.key q.2.ha q.2.hc q.1.hs q.2.ba q.1.bl.length q.2.bc PC.1 PC.2.2.1 PC.2.2.2.1 z1.2 z5 z4 hin.h
      have g : (k : Int) < n := by omega
      have g0 : (0 : Int) ≤ k := by omega
      clear HS hr hat HI HZ PC hin h0
      generalize entN q.1 = en at *
      have e1 : IntKind.i64.wrap (c + en) = c + en := by
        unfold IntKind.wrap; simp [IntKind.signed, IntKind.bits]; omega
      go_wp2_with fail
      refine C.out.mono ?_
      rintro r w2 ⟨rfl, hb2⟩
      have HB2 : Hid (Below w.heap.size w w2) := hb.trans (hb2.mono hb.size)
      clear hb2 C hb
      go_wp2_with fail
      go_roundw
      case rel => exact ⟨k + 1, c + en, by omega, by go_num, by first | rfl | rw [e1], by omega, by omega, HS2.out, HB2.out⟩
      case measure => simp [intOf]; omega
    · have HF : Hid (S = c) := by
        show _ = _
        rw [HS.out, List.drop_of_length_le (by have := HN.out; simp; omega), costsE]
        omega
      clear HS
      go_wp2_with fail
      go_ret
      exact ⟨ret_int HF.out.symm, hb⟩
end Go.Proofs.YtelbddgdaibolaaDoor
/-
  What isPlain and allPlain answer.
-/
namespace Go.Proofs.YtelbddgdaibolaaDoor
open Go.ChangeShapes Go.WideShapes Go.ChangeAt Go.RowKit
set_option maxHeartbeats 400000 in
theorem iplain_any (c : Int) (w : World) (h0 : 0 ≤ c) (h1 : c < 256) :
    Calls Tryd.prog 90 #[.int .u8 c] w fun e w' => e = .returned (.bool (plainI c)) ∧ w' = w := by
  by_cases e9 : c = 9
  · subst e9
    go_enter Tryd.func90, Tryd.ntmps90
    go_wp2
    go_ret
    exact ⟨rfl, rfl⟩
  · have d9 : (c == 9) = false := by simpa using e9
    by_cases a1 : 32 ≤ c
    · by_cases a2 : c ≤ 126
      · have d2 : decide (c ≤ 126) = true := by simpa using a2
        have HP : Hid (plainI c = true) := by show _ = _; simp [plainI, a1, a2]
        go_enter Tryd.func90, Tryd.ntmps90
        go_wp2
        go_ret
        exact ⟨ret_bool HP.out.symm, rfl⟩
      · have d2 : decide (c ≤ 126) = false := by simpa using a2
        have HP : Hid (plainI c = false) := by show _ = _; simp [plainI, e9]; omega
        go_enter Tryd.func90, Tryd.ntmps90
        go_wp2
        go_ret
        exact ⟨ret_bool HP.out.symm, rfl⟩
    · have HP : Hid (plainI c = false) := by show _ = _; simp [plainI, e9]; omega
      go_enter Tryd.func90, Tryd.ntmps90
      go_wp2
      go_ret
      exact ⟨ret_bool HP.out.symm, rfl⟩
set_option maxHeartbeats 1000000 in
theorem allPlain_any (s : ByteArray) (w : World) (hs : s.size ≤ 1048576) :
    Calls Tryd.prog 76 #[.string s] w fun e w' => e = .returned (.bool (plainL s.data.toList)) ∧ w' = w := by
  go_enter Tryd.func76, Tryd.ntmps76
  go_wp2
  go_loop [6] (fun i => ∃ k : Nat, k ≤ s.size ∧ i = .int .i64 k ∧ plainL (s.data.toList.take k) = true) (fun i => s.size - (intOf i).toNat)
  case atStart => exact ⟨0, Nat.zero_le _, rfl, rfl⟩
  case round =>
    obtain ⟨k, hk, rfl, hall⟩ := hrel
    by_cases hlt : k < s.size
    · have hb : ((s[k].toNat : Nat) : Int) < 256 := by have := s[k].toNat_lt; omega
      cases hw : plainI (s[k].toNat : Int)
      · have HN : Hid (plainL s.data.toList = false) := plainL_not s k hlt hw
        have HW : Hid (plainI (s[k].toNat : Int) = false) := hw
        clear hall hw
        go_wp2_with fail
        refine (iplain_any _ _ (by omega) hb).mono ?_
        rintro e w' ⟨rfl, rfl⟩
        rw [HW.out]
        go_wp2
        go_ret
        exact ⟨ret_bool HN.out.symm, rfl⟩
      · have HA : Hid (plainL (s.data.toList.take (k + 1)) = true) := by
          show _ = _
          rw [take_snoc s k hlt, plainL_snoc, hall, hw]; rfl
        have HW : Hid (plainI (s[k].toNat : Int) = true) := hw
        clear hall hw
        go_wp2_with fail
        refine (iplain_any _ _ (by omega) hb).mono ?_
        rintro e w' ⟨rfl, rfl⟩
        rw [HW.out]
        go_wp2
        go_round
        case rel => exact ⟨k + 1, by omega, by go_num, HA.out⟩
        case measure => simp [intOf]; omega
    · have ek : s.data.toList.take k = s.data.toList := List.take_of_length_le (by simp; omega)
      rw [ek] at hall
      have HN : Hid (plainL s.data.toList = true) := hall
      clear ek hall
      go_wp2
      go_ret
      exact ⟨ret_bool HN.out.symm, rfl⟩
end Go.Proofs.YtelbddgdaibolaaDoor
/-
  What IsWord answers where the table lies in memory as the program lays it.
-/
namespace Go.Proofs.YtelbddgdaibolaaDoor
open Go.ChangeShapes Go.WideShapes Go.ChangeAt Go.RowKit
set_option maxHeartbeats 400000 in
theorem implIsWord_size (s : ByteArray) (w : World) (h : s.size < 1 ∨ 64 < s.size) :
    Calls Tryd.prog 75 #[.string s] w fun e w' => e = .returned (.bool false) ∧ Below w.heap.size w w' := by
  rcases h with h | h
  · have hh : (s.size : Int) < 1 := by omega
    go_enter Tryd.func75, Tryd.ntmps75
    go_wp2
    go_ret
    exact ⟨rfl, Below.refl _ _⟩
  · have hh : (64 : Int) < s.size := by omega
    have h1 : (1 : Int) ≤ s.size := by omega
    have d : decide ((s.size : Int) ≤ 64) = false := by simp; omega
    go_enter Tryd.func75, Tryd.ntmps75
    go_wp2
    go_ret
    exact ⟨rfl, Below.refl _ _⟩
/-- A whole array loaded behind a guard that lets it. -/
theorem wpList_load_row_g {P : Program} {ops : Array Oper} {rest : List Oper} {o : Oper} {a : Act} {w : World} {Q : Exit → Act → World → Prop} (hw : Region.wanted o (yielded ops a.tmps) = true) (ty : TypeId) (x : Operand) (ho : o.op = .load ty x)
    (g : Nat) (hx : a.eval x = .pointer (some ⟨g, 0, none⟩)) (t : TypeId) (cs : Array Value) (fr : Nat × Nat) (d : TypeDesc) (hg : w.heap[g]? = some (.cells cs t fr))
    (hu : P.underlying ty = some d) (hd : (match d with | .struct _ | .array _ _ => true | _ => false) = true) (hi : (P.info? ty).map (·.size) = some cs.size)
    (h : wpList P ops Q rest (a.put o.dst (.agg cs)) w) : wpList P ops Q (o :: rest) a w :=
  wpList_step fun _ hK => by rw [if_pos hw]; exact wp_load_row ty x ho g hx t cs fr d hg hu hd hi (hK _ _ h)
theorem infoSet : (Tryd.prog.info? 122).map (·.size) = some 128 := by kernel_rfl
set_option maxHeartbeats 400000 in
theorem implIsWord_mid (s : ByteArray) (w : World) (cs : Array Value) (tt : TypeId) (fr : Nat × Nat) (h1 : 1 ≤ s.size) (h2 : s.size ≤ 64) (hg : w.heap[0]? = some (.cells cs tt fr)) (hsz : cs.size = 128) (hcs : ∀ i, i < 128 → cs[i]? = some (.bool (wordI (i : Int)))) :
    Calls Tryd.prog 75 #[.string s] w fun e w' => e = .returned (.bool (allW s.data.toList)) ∧ Below w.heap.size w w' := by
  have g1 : (1 : Int) ≤ s.size := by omega
  have d : decide ((s.size : Int) ≤ 64) = true := by simp; omega
  have HG : Hid (w.heap[0]? = some (.cells cs tt fr)) := hg
  have HI : Hid ((Tryd.prog.info? 122).map (·.size) = some cs.size) := by
    show _ = _
    rw [infoSet, hsz]
  have HC : Hid (∀ i, i < 128 → cs[i]? = some (.bool (wordI (i : Int)))) := hcs
  clear hcs hg hsz
  go_enter Tryd.func75, Tryd.ntmps75
  go_wp2_with (refine wpList_load_row_g (by rfl) 122 (.global 0) rfl 0 rfl tt cs fr _ HG.out Tryd.underlying122 rfl HI.out ?_)
  refine (hasOnly_any s cs _ h2 HC.out).mono ?_
  rintro e w1 ⟨rfl, hb⟩
  go_wp2
  go_ret
  exact ⟨rfl, hb⟩
theorem implIsWord_any (s : ByteArray) (w : World) (cs : Array Value) (tt : TypeId) (fr : Nat × Nat) (hg : w.heap[0]? = some (.cells cs tt fr)) (hsz : cs.size = 128) (hcs : ∀ i, i < 128 → cs[i]? = some (.bool (wordI (i : Int)))) :
    Calls Tryd.prog 75 #[.string s] w fun e w' => e = .returned (.bool (wordS s)) ∧ Below w.heap.size w w' := by
  by_cases c : s.size < 1 ∨ 64 < s.size
  · have h : wordS s = false := by
      rcases c with c | c
      · exact wordS_short s c
      · exact wordS_long s c
    rw [h]; exact implIsWord_size s w c
  · rw [wordS_mid s (by omega) (by omega)]
    exact implIsWord_mid s w cs tt fr (by omega) (by omega) hg hsz hcs
end Go.Proofs.YtelbddgdaibolaaDoor
/-
  The law of IsWord out of contracts; what the row's list gives.
-/
namespace Go.Proofs.YtelbddgdaibolaaDoor
open Go.ChangeShapes Go.WideShapes Go.ChangeAt Go.RowKit
/-- An array of bools that reads as a table holds the table, cell for cell. -/
theorem cells_of_bools {H : Type} {enc : TypeId × Value → H} {P : Program} {w : World} {base : Nat} {sp : Nat → Bool} {held : Bool} {fuel : Nat} {t e : TypeId} {n : Nat} {cs : List Value} {zs : List Bool} {p : List MemPlace}
    (ht : P.underlying t = some (.array n e)) (he : P.underlying e = some .bool) (hce : P.cellsOf e = 1) (hct : P.cellsOf t = n)
    (h : DataW.trod enc P w base sp held fuel t cs = some (.agg (zs.map fun z => .lit (.bool z)), p)) : cs = zs.map fun z => Value.bool z := by
  cases fuel with
  | zero => simp [DataW.trod] at h
  | succ fuel =>
    simp only [DataW.trod, ht, hce, hct, Nat.mul_one] at h
    split at h
    · rename_i hl
      obtain ⟨xs, hm, hx⟩ := Option.map_eq_some_iff.1 h
      have hxs : xs.map (·.1) = zs.map fun z => (DataW.lit (.bool z) : DataW H) := by
        have := congrArg Prod.fst hx
        simpa using this
      have hxl : xs.length = n := by simpa using Lib.mapM_length hm
      have hzl : zs.length = n := by
        have := congrArg List.length hxs
        simp at this
        omega
      apply List.ext_getElem?
      intro i
      by_cases hi : i < n
      · obtain ⟨b, hb, hf⟩ := Lib.mapM_at hm i i (by simp [hi])
        obtain ⟨z, hc, rfl⟩ := DataW.trod_bool he hf
        have h1 : cs[i]? = some (.bool z) := by
          have := congrArg (·[0]?) hc
          simpa [List.getElem?_take, List.getElem?_drop] using this
        have h2 : (xs.map (·.1))[i]? = some (DataW.lit (.bool z) : DataW H) := by simp [hb]
        rw [hxs] at h2
        simp only [List.getElem?_map, Option.map_eq_some_iff, DataW.lit.injEq, Lit.bool.injEq] at h2
        obtain ⟨z', hz', rfl⟩ := h2
        simp [h1, hz']
      · rw [List.getElem?_eq_none (by omega), List.getElem?_eq_none (by simp; omega)]
    · cases h
theorem setCells : Tryd.prog.cellsOf 122 = 128 := by kernel_rfl
theorem boolCells : Tryd.prog.cellsOf 4 = 1 := by kernel_rfl
theorem setNamed : Tryd.prog.globalNamed "loop.example/g00665/impl.wordBytes" = some 0 := by kernel_rfl
theorem setType : (Tryd.prog.globals[0]?).map (·.type) = some 122 := by kernel_rfl
theorem laidTab {H : Type} : (Rows.laid_loop_example_g00665_impl_wordBytes : DataW H) = .agg (wordTab.map fun z => .lit (.bool z)) := by kernel_rfl
/-- The table lies in memory. -/
def SetIs (w : World) : Prop := ∃ cs tt fr, w.heap[0]? = some (.cells cs tt fr) ∧ cs.size = 128 ∧ ∀ i, i < 128 → cs[i]? = some (.bool (wordI (i : Int)))
theorem setIs_of {w : World} {rest : List (String × DataW Unit)} (h : laidMet Tryd.prog (("loop.example/g00665/impl.wordBytes", Rows.laid_loop_example_g00665_impl_wordBytes) :: rest) w) : SetIs w := by
  obtain ⟨ps, ⟨g', t', cs, fuel, p, q, hg', ht', hvar, hd, _, _⟩, _⟩ := h
  obtain rfl := Option.some.inj (setNamed.symm.trans hg')
  obtain rfl := Option.some.inj (setType.symm.trans ht')
  rw [laidTab] at hd
  have hcs := cells_of_bools Tryd.underlying122 Tryd.underlying4 boolCells setCells hd
  unfold World.var? at hvar
  rw [setNamed] at hvar
  simp only [Option.bind_some] at hvar
  cases hb : w.heap[0]? with
  | none => rw [hb] at hvar; cases hvar
  | some o =>
    rw [hb] at hvar
    cases o with
    | cells c tt fr =>
      simp only [Option.some.injEq] at hvar
      subst hvar
      have hl : c.toList.length = 128 := by rw [hcs, List.length_map]; exact wordTab_len
      refine ⟨c, tt, fr, hb, by simpa using hl, fun i hi => ?_⟩
      rw [← Array.getElem?_toList, hcs, List.getElem?_map]
      have hi2 : i < wordTab.length := by rw [wordTab_len]; exact hi
      rw [List.getElem?_eq_getElem hi2]
      simp [wordI, hi2]
    | map _ _ => cases hvar
    | _ => cases hvar
theorem SetIs.below {w w' : World} (h : SetIs w) (hb : Below w.heap.size w w') : SetIs w' := by
  obtain ⟨cs, tt, fr, hg, h1, h2⟩ := h
  refine ⟨cs, tt, fr, ?_, h1, h2⟩
  rw [hb.block 0 (Array.getElem?_eq_some_iff.1 hg).1, hg]
theorem implIsWord_set (s : ByteArray) (w : World) (h : SetIs w) :
    Calls Tryd.prog 75 #[.string s] w fun e w' => e = .returned (.bool (wordS s)) ∧ Below w.heap.size w w' := by
  obtain ⟨cs, tt, fr, hg, h1, h2⟩ := h
  exact implIsWord_any s w cs tt fr hg h1 h2
end Go.Proofs.YtelbddgdaibolaaDoor
/-
  Contracts of Go library functions at this program: the tables by which the library of proofs knows its functions here (made by the kit tool lay-plain).
-/
namespace Go.Proofs
open Go.Shelf
def Tryd.lays160_ren : Go.Shelf.Ren := ⟨fun | 160 => 77 | 232 => 92 | 231 => 91 | 227 => 93 | 234 => 95 | 233 => 94 | 236 => 97 | 235 => 96 | 228 => 100 | 271 => 103 | 151 => 102 | 197 => 101 | 120 => 106 | 152 => 105 | 260 => 104 | 137 => 107 | 119 => 108 | 224 => 109 | 225 => 110 | 217 => 111 | 266 => 112 | n => n, fun | 9 => 9 | 4 => 4 | 3 => 3 | 5 => 5 | 117 => 126 | 116 => 125 | 0 => 0 | 124 => 129 | 21 => 21 | 105 => 130 | 46 => 135 | 119 => 134 | 139 => 138 | 138 => 137 | n => n, fun | 3 => 1 | 4 => 2 | n => n⟩
theorem Tryd.lays160 : Go.Proofs.Lays.n160 Tryd.prog Tryd.lays160_ren := {
  mixed := by kernel_rfl
  f119 := Tryd.func108.trans (congrArg some (by kernel_rfl))
  f120 := Tryd.func106.trans (congrArg some (by kernel_rfl))
  f137 := Tryd.func107.trans (congrArg some (by kernel_rfl))
  f151 := Tryd.func102.trans (congrArg some (by kernel_rfl))
  f152 := Tryd.func105.trans (congrArg some (by kernel_rfl))
  f160 := Tryd.func77.trans (congrArg some (by kernel_rfl))
  f197 := Tryd.func101.trans (congrArg some (by kernel_rfl))
  f217 := Tryd.func111.trans (congrArg some (by kernel_rfl))
  f224 := Tryd.func109.trans (congrArg some (by kernel_rfl))
  f225 := Tryd.func110.trans (congrArg some (by kernel_rfl))
  f227 := Tryd.func93.trans (congrArg some (by kernel_rfl))
  f228 := Tryd.func100.trans (congrArg some (by kernel_rfl))
  f231 := Tryd.func91.trans (congrArg some (by kernel_rfl))
  f232 := Tryd.func92.trans (congrArg some (by kernel_rfl))
  f233 := Tryd.func94.trans (congrArg some (by kernel_rfl))
  f234 := Tryd.func95.trans (congrArg some (by kernel_rfl))
  f235 := Tryd.func96.trans (congrArg some (by kernel_rfl))
  f236 := Tryd.func97.trans (congrArg some (by kernel_rfl))
  f260 := Tryd.func104.trans (congrArg some (by kernel_rfl))
  f266 := Tryd.func112.trans (congrArg some (by kernel_rfl))
  f271 := Tryd.func103.trans (congrArg some (by kernel_rfl))
  t0 := Tryd.underlying0
  a0 := Tryd.isAgg0
  z0 := Tryd.sizeOf0
  v0 := Tryd.zeroValue0
  t3 := Tryd.underlying3
  a3 := Tryd.isAgg3
  z3 := Tryd.sizeOf3
  v3 := Tryd.zeroValue3
  t4 := Tryd.underlying4
  a4 := Tryd.isAgg4
  z4 := Tryd.sizeOf4
  v4 := Tryd.zeroValue4
  t5 := Tryd.underlying5
  a5 := Tryd.isAgg5
  z5 := Tryd.sizeOf5
  v5 := Tryd.zeroValue5
  t9 := Tryd.underlying9
  a9 := Tryd.isAgg9
  z9 := Tryd.sizeOf9
  v9 := Tryd.zeroValue9
  t21 := Tryd.underlying21
  a21 := Tryd.isAgg21
  z21 := Tryd.sizeOf21
  v21 := Tryd.zeroValue21
  t46 := Tryd.underlying135
  a46 := Tryd.isAgg135
  z46 := Tryd.sizeOf135
  v46 := Tryd.zeroValue135
  t105 := Tryd.underlying130
  a105 := Tryd.isAgg130
  z105 := Tryd.sizeOf130
  v105 := Tryd.zeroValue130
  t116 := Tryd.underlying125
  a116 := Tryd.isAgg125
  z116 := Tryd.sizeOf125
  t117 := Tryd.underlying126
  a117 := Tryd.isAgg126
  z117 := Tryd.sizeOf126
  v117 := Tryd.zeroValue126
  t119 := Tryd.underlying134
  a119 := Tryd.isAgg134
  z119 := Tryd.sizeOf134
  t124 := Tryd.underlying129
  a124 := Tryd.isAgg129
  z124 := Tryd.sizeOf129
  v124 := Tryd.zeroValue129
  t138 := Tryd.underlying137
  a138 := Tryd.isAgg137
  z138 := Tryd.sizeOf137
  v138 := Tryd.zeroValue137
  t139 := Tryd.underlying138
  a139 := Tryd.isAgg138
  z139 := Tryd.sizeOf138
  v139 := Tryd.zeroValue138
  g3 := by kernel_rfl
  g4 := by kernel_rfl }
end Go.Proofs
/-
  What TrimText and its model answer; the law of TrimText out of them.
-/
namespace Go.Proofs.YtelbddgdaibolaaDoor
open Go.ChangeShapes Go.WideShapes Go.ChangeAt Go.RowKit
theorem trimT_size (s : ByteArray) : (trimT s).size ≤ s.size := by
  have h : (Lib.trimS s.data.toList [32, 9]).length ≤ s.data.toList.length := by
    unfold Lib.trimS Lib.trimLeftS Lib.trimRightS
    refine Nat.le_trans (List.dropWhile_sublist _).length_le ?_
    rw [List.length_reverse]
    refine Nat.le_trans (List.dropWhile_sublist _).length_le ?_
    rw [List.length_reverse]
    exact Nat.le_refl _
  have e : (trimT s).size = (Lib.trimS s.data.toList [32, 9]).length := by simp [trimT, ByteArray.size]
  rw [e]
  simpa using h
theorem trim_lib (s : ByteArray) (w : World) (hs : s.size ≤ 1000) :
    Calls Tryd.prog 77 #[.string s, .string ⟨#[32, 9]⟩] w fun e w' => e = .returned (.string (trimT s)) ∧ Below w.heap.size w w' :=
  Any.strings_Trim_laid Tryd.lays160 (by kernel_rfl) s ⟨#[32, 9]⟩ w (by omega) (by decide) (ascii_of_all (by decide))
theorem trim_big (s : ByteArray) (w : World) (hs : s.size ≤ 1048576) :
    Calls Tryd.prog 77 #[.string s, .string ⟨#[32, 9]⟩] w fun e w' => e = .returned (.string (trimT s)) ∧ Below w.heap.size w w' :=
  Any.strings_Trim_laid Tryd.lays160 (by kernel_rfl) s ⟨#[32, 9]⟩ w (by omega) (by decide) (ascii_of_all (by decide))
end Go.Proofs.YtelbddgdaibolaaDoor
/-
  What lineFault and HeadersFault answer.
-/
namespace Go.Proofs.YtelbddgdaibolaaDoor
open Go.ChangeShapes Go.WideShapes Go.ChangeAt Go.RowKit Go.Sort
theorem hdr_room {w w1 : World} {n v : ByteArray} {t : TypeId} (hb : Below (w.alloc (.cells #[.string n, .string v] t)).heap.size (w.alloc (.cells #[.string n, .string v] t)) w1) :
    w.heap.size < w1.heap.size ∧ w1.cell? ⟨w.heap.size, 0, none⟩ = some (.string n) ∧ w1.cell? ⟨w.heap.size, 1, none⟩ = some (.string v) ∧ Below w.heap.size w w1 := by
  rw [World.size_alloc] at hb
  have hz := hb.size
  simp only [World.size_alloc] at hz
  exact ⟨hz, by rw [hb.cell (p := ⟨w.heap.size, 0, none⟩) (Nat.lt_succ_self _)]; simp, by rw [hb.cell (p := ⟨w.heap.size, 1, none⟩) (Nat.lt_succ_self _)]; simp, ((Below.refl _ _).alloc (Nat.le_refl _) _).trans (hb.mono (Nat.le_succ _))⟩
theorem hkeep {W W' : World} (hb : Below W.heap.size W W') {p : Addr} {v : Value} (h : W.cell? p = some v) : W'.cell? p = some v := by
  rw [hb.cell (block_lt_of_cell h)]; exact h
set_option maxHeartbeats 2000000 in
theorem implLine_any (r : Hdr) (w : World) (hset : SetIs w) :
    Calls Tryd.prog 63 #[.agg #[.string r.name, .string r.value]] w fun e w' => e = .returned (.int .i64 (faultH r)) ∧ Below w.heap.size w w' := by
  obtain ⟨n, v⟩ := r
  simp only
  have HW : Hid (Calls Tryd.prog 75 #[.string n] (w.alloc (.cells #[.string n, .string v] 98)) fun e w' => e = .returned (.bool (wordS n)) ∧ Below (w.alloc (.cells #[.string n, .string v] 98)).heap.size (w.alloc (.cells #[.string n, .string v] 98)) w') := implIsWord_set n _ (hset.below ((Below.refl _ _).alloc (Nat.le_refl _) _))
  clear hset
  cases hw : wordS n
  · have HE : Hid (faultH ⟨n, v⟩ = 5) := by show _ = _; simp [faultH, hw]
    rw [hw] at HW
    clear hw
    go_enter Tryd.func63, Tryd.ntmps63
    go_wp2_with fail
    refine HW.out.mono ?_
    rintro e w1 ⟨rfl, hb1⟩
    obtain ⟨hz1, p0, p1, kb⟩ := hdr_room hb1
    have KB : Hid (Below w.heap.size w w1) := kb
    clear hb1 kb
    go_wp2_with fail
    go_ret
    exact ⟨ret_int HE.out.symm, KB.out⟩
  rw [hw] at HW
  by_cases hbig : 200 < v.size
  · have HE : Hid (faultH ⟨n, v⟩ = 2) := by show _ = _; simp only [faultH, hw]; rw [if_neg (by simp), if_pos hbig]
    have g : (200 : Int) < v.size := by omega
    clear hw
    go_enter Tryd.func63, Tryd.ntmps63
    go_wp2_with fail
    refine HW.out.mono ?_
    rintro e w1 ⟨rfl, hb1⟩
    obtain ⟨hz1, p0, p1, kb⟩ := hdr_room hb1
    have KB : Hid (Below w.heap.size w w1) := kb
    clear hb1 kb
    go_wp2_with fail
    go_ret
    exact ⟨ret_int HE.out.symm, KB.out⟩
  have g : ¬ (200 : Int) < v.size := by omega
  have HP : Hid (∀ w, Calls Tryd.prog 76 #[.string v] w fun e w' => e = .returned (.bool (plainL v.data.toList)) ∧ Below w.heap.size w w') := fun w => (allPlain_any v w (by omega)).mono fun _ _ ⟨h1, h2⟩ => ⟨h1, h2 ▸ Below.refl _ _⟩
  have HT : Hid (∀ w, Calls Tryd.prog 77 #[.string v, .string ⟨#[32, 9]⟩] w fun e w' => e = .returned (.string (trimT v)) ∧ Below w.heap.size w w') := fun w => trim_big v w (by omega)
  cases hp : plainL v.data.toList
  · have HE : Hid (faultH ⟨n, v⟩ = 5) := by show _ = _; simp only [faultH, hw]; rw [if_neg (by simp), if_neg hbig, if_pos hp]
    rw [hp] at HP
    clear hw hp hbig
    go_enter Tryd.func63, Tryd.ntmps63
    go_wp2_with fail
    refine HW.out.mono ?_
    rintro e w1 ⟨rfl, hb1⟩
    obtain ⟨hz1, p0, p1, kb⟩ := hdr_room hb1
    have KB : Hid (Below w.heap.size w w1) := kb
    clear hb1 kb
    go_wp2_with fail
    have q1 := cell_regrown p1
    have cP : ∀ d' os, Calls Tryd.prog 76 #[.string v] (grow (redrawn w1 d') os) fun e w'' => e = .returned (.bool false) ∧ ∃ p : Regrown, w'' = grow (redrawn w1 p.d) p.os := fun d' os => Calls.regrown_of (HP.out _)
    refine wp_region_quiet_below (by kernel_rfl) (by kernel_rfl) ?_
    repeat (go_big_quiet_step (first | (go_at_call 76; exact cP _ _)))
    refine wpQuiet_nil ?_
    intro W2 hW2
    have hbW2 : Below w1.heap.size w1 W2 := by
      obtain ⟨⟨d, os⟩, rfl⟩ := hW2
      exact below_regrown w1 d os
    have KB2 : Hid (Below w.heap.size w W2) := KB.out.trans (hbW2.mono KB.out.size)
    clear hW2 hbW2 cP q1 p0 p1 KB
    go_wp2_with fail
    go_ret
    exact ⟨ret_int HE.out.symm, KB2.out⟩
  rw [hp] at HP
  by_cases ht : trimT v = v
  · have HE : Hid (faultH ⟨n, v⟩ = 0) := by show _ = _; simp only [faultH, hw]; rw [if_neg (by simp), if_neg hbig, if_neg (by simp [hp]), if_pos ht]
    rw [ht] at HT
    clear hw hp hbig ht
    go_enter Tryd.func63, Tryd.ntmps63
    go_wp2_with fail
    refine HW.out.mono ?_
    rintro e w1 ⟨rfl, hb1⟩
    obtain ⟨hz1, p0, p1, kb⟩ := hdr_room hb1
    have KB : Hid (Below w.heap.size w w1) := kb
    clear hb1 kb
    go_wp2_with fail
    have q1 := cell_regrown p1
    have cP : ∀ d' os, Calls Tryd.prog 76 #[.string v] (grow (redrawn w1 d') os) fun e w'' => e = .returned (.bool true) ∧ ∃ p : Regrown, w'' = grow (redrawn w1 p.d) p.os := fun d' os => Calls.regrown_of (HP.out _)
    have cT : ∀ d' os, Calls Tryd.prog 77 #[.string v, .string ⟨#[32, 9]⟩] (grow (redrawn w1 d') os) fun e w'' => e = .returned (.string v) ∧ ∃ p : Regrown, w'' = grow (redrawn w1 p.d) p.os := fun d' os => Calls.regrown_of (HT.out _)
    refine wp_region_quiet_below (by kernel_rfl) (by kernel_rfl) ?_
    repeat (go_big_quiet_step (first | (go_at_call 76; exact cP _ _) | (go_at_call 77; exact cT _ _)))
    refine wpQuiet_nil ?_
    intro W2 hW2
    have hbW2 : Below w1.heap.size w1 W2 := by
      obtain ⟨⟨d, os⟩, rfl⟩ := hW2
      exact below_regrown w1 d os
    have KB2 : Hid (Below w.heap.size w W2) := KB.out.trans (hbW2.mono KB.out.size)
    clear hW2 hbW2 cP cT q1 p0 p1 KB
    go_wp2_with fail
    go_ret
    exact ⟨ret_int HE.out.symm, KB2.out⟩
  · have HE : Hid (faultH ⟨n, v⟩ = 5) := by show _ = _; simp only [faultH, hw]; rw [if_neg (by simp), if_neg hbig, if_neg (by simp [hp]), if_neg ht]
    have hq := hstr_ne ht
    generalize trimT v = t at *
    clear hw hp hbig ht
    go_enter Tryd.func63, Tryd.ntmps63
    go_wp2_with fail
    refine HW.out.mono ?_
    rintro e w1 ⟨rfl, hb1⟩
    obtain ⟨hz1, p0, p1, kb⟩ := hdr_room hb1
    have KB : Hid (Below w.heap.size w w1) := kb
    clear hb1 kb
    go_wp2_with fail
    have q1 := cell_regrown p1
    have cP : ∀ d' os, Calls Tryd.prog 76 #[.string v] (grow (redrawn w1 d') os) fun e w'' => e = .returned (.bool true) ∧ ∃ p : Regrown, w'' = grow (redrawn w1 p.d) p.os := fun d' os => Calls.regrown_of (HP.out _)
    have cT : ∀ d' os, Calls Tryd.prog 77 #[.string v, .string ⟨#[32, 9]⟩] (grow (redrawn w1 d') os) fun e w'' => e = .returned (.string t) ∧ ∃ p : Regrown, w'' = grow (redrawn w1 p.d) p.os := fun d' os => Calls.regrown_of (HT.out _)
    refine wp_region_quiet_below (by kernel_rfl) (by kernel_rfl) ?_
    repeat (go_big_quiet_step (first | (go_at_call 76; exact cP _ _) | (go_at_call 77; exact cT _ _)))
    refine wpQuiet_nil ?_
    intro W2 hW2
    have hbW2 : Below w1.heap.size w1 W2 := by
      obtain ⟨⟨d, os⟩, rfl⟩ := hW2
      exact below_regrown w1 d os
    have KB2 : Hid (Below w.heap.size w W2) := KB.out.trans (hbW2.mono KB.out.size)
    clear hW2 hbW2 cP cT q1 p0 p1 KB
    go_wp2_with fail
    go_ret
    exact ⟨ret_int HE.out.symm, KB2.out⟩
set_option maxRecDepth 100000 in
set_option maxHeartbeats 4000000 in
theorem implHFault_any (w : World) (a : Option Addr) (cap : Nat) (l : List Hdr) (hl : l.length ≤ 1048576) (hset : SetIs w) (hi : HdsIn w a l) :
    Calls Tryd.prog 39 #[.slice a l.length cap] w fun e w' => e = .returned (.int .i64 (headsC l)) ∧ Below w.heap.size w w' := by
  by_cases h20 : 20 < l.length
  · have HE : Hid (headsC l = 2) := headsC_many h20
    have g : (20 : Int) < (l.length : Int) := by omega
    clear hi hset
    generalize l.length = n at *
    go_enter Tryd.func39, Tryd.ntmps39
    go_wp2_with fail
    go_ret
    exact ⟨ret_int HE.out.symm, Below.refl _ _⟩
  have HC : Hid (headsC l = faultHL l) := headsC_few h20
  have HI : Hid (HdsIn w a l) := hi
  have HS : Hid (SetIs w) := hset
  clear hi hset
  generalize hn : l.length = n at *
  have HN : Hid (l.length = n) := hn
  clear hn
  have g : ¬ (20 : Int) < (n : Int) := by omega
  go_enter Tryd.func39, Tryd.ntmps39
  go_wp2_with fail
  go_loopw [11] (fun i wr => ∃ k : Nat, k ≤ n ∧ i = .int .i64 k ∧ faultHL l = faultHL (l.drop k) ∧ Below w.heap.size w wr) (fun i _ => n - (intOf i).toNat)
  case atStart => exact ⟨0, Nat.zero_le _, rfl, rfl, Below.refl _ _⟩
  case round =>
    obtain ⟨k, hk, rfl, hf, hb⟩ := hrel
    have HF : Hid (faultHL l = faultHL (l.drop k)) := hf
    clear hf
    by_cases hlt : k < n
    · obtain ⟨r, hr⟩ : ∃ r, l[k]? = some r := ⟨l[k]'(by have := HN.out; omega), List.getElem?_eq_getElem _⟩
      rcases HI.out with h | ⟨b, off, rfl, hat⟩
      · subst h; simp at hr
      obtain ⟨p1, p3⟩ := (hat.keep hb) k r hr
      have HD : Hid (l.drop k = r :: l.drop (k + 1)) := drop_hdr l k r hr
      have gk : (k : Int) < n := by omega
      have SF : Hid (∀ W, Below wr.heap.size wr W → Calls Tryd.prog 63 #[.agg #[.string r.name, .string r.value]] W fun e w' => e = .returned (.int .i64 (faultH r)) ∧ Below W.heap.size W w') := fun W h => implLine_any r W ((HS.out.below hb).below h)
      clear hr hat HI
      by_cases hfr : faultH r = 0
      · have HX : Hid (faultHL l = faultHL (l.drop (k + 1))) := by show _ = _; rw [HF.out, HD.out, faultHL_ok hfr]
        rw [hfr] at SF
        clear hfr HD HF
        obtain ⟨rn, rv⟩ := r
        simp only at p1 p3 SF
        go_wp2_with fail
        refine (SF.out _ ((Below.refl _ _).alloc (Nat.le_refl _) _)).mono ?_
        rintro e w2 ⟨rfl, hb2⟩
        obtain ⟨_, _, _, kb⟩ := hdr_room hb2
        have hbb := hb.trans (kb.mono hb.size)
        clear hb2 hb kb
        go_wp2_with fail
        go_roundw
        case rel => exact ⟨k + 1, by omega, by go_num, HX.out, hbb⟩
        case measure => simp [intOf]; omega
      · have HX : Hid (headsC l = faultH r) := by show _ = _; rw [HC.out, HF.out, HD.out, faultHL_bad hfr]
        clear HD HF HC
        obtain ⟨rn, rv⟩ := r
        simp only at p1 p3 SF
        generalize faultH ⟨rn, rv⟩ = fr at *
        go_wp2_with fail
        refine (SF.out _ ((Below.refl _ _).alloc (Nat.le_refl _) _)).mono ?_
        rintro e w2 ⟨rfl, hb2⟩
        obtain ⟨_, _, _, kb⟩ := hdr_room hb2
        have hbb := hb.trans (kb.mono hb.size)
        clear hb2 hb kb
        go_wp2_with fail
        go_ret
        exact ⟨ret_int HX.out.symm, hbb⟩
    · have HX : Hid (headsC l = 0) := by
        show _ = _
        rw [HC.out, HF.out, List.drop_of_length_le (by have := HN.out; omega)]
        rfl
      clear HF HC
      go_wp2_with fail
      go_ret
      exact ⟨ret_int HX.out.symm, hb⟩
end Go.Proofs.YtelbddgdaibolaaDoor
/-
  Is it an entry? The program's answer.
-/
namespace Go.Proofs.YtelbddgdaibolaaDoor
open Go.ChangeShapes Go.WideShapes Go.ChangeAt Go.RowKit Go.Sort
set_option maxHeartbeats 8000000 in
theorem implEntry_any (w : World) (key : ByteArray) (st : Int) (ha : Option Addr) (hc : Nat) (ba : Option Addr) (bc : Nat) (t g l s e : Int) (b1 b2 : Bool) (ta : Option Addr) (tc : Nat) (pins : Int) (hs : List Hdr) (bn tn : Nat) (hk : key.size ≤ maxLen) (hhl : hs.length ≤ 1048576) (hbn : bn ≤ maxLen) (htn : tn ≤ maxLen) (hset : SetIs w) (hH : HdsIn w ha hs) :
    Calls Tryd.prog 11 #[.agg #[.string key, .int .i64 st, .slice ha hs.length hc, .slice ba bn bc, .int .i64 t, .int .i64 g, .int .i64 l, .int .i64 s, .int .i64 e, .bool b1, .bool b2, .slice ta tn tc, .int .i64 pins]] w fun r w' => r = .returned (.int .i64 (entryC key st pins hs bn tn t g l s e)) ∧ Below w.heap.size w w' := by
  have HK : Hid (Below w.heap.size w (w.alloc (.cells #[.string key, .int .i64 st, .slice ha hs.length hc, .slice ba bn bc, .int .i64 t, .int .i64 g, .int .i64 l, .int .i64 s, .int .i64 e, .bool b1, .bool b2, .slice ta tn tc, .int .i64 pins] 34)) ∧ E13 (w.alloc (.cells #[.string key, .int .i64 st, .slice ha hs.length hc, .slice ba bn bc, .int .i64 t, .int .i64 g, .int .i64 l, .int .i64 s, .int .i64 e, .bool b1, .bool b2, .slice ta tn tc, .int .i64 pins] 34)) w.heap.size (.string key) (.int .i64 st) (.slice ha hs.length hc) (.slice ba bn bc) (.int .i64 t) (.int .i64 g) (.int .i64 l) (.int .i64 s) (.int .i64 e) (.bool b1) (.bool b2) (.slice ta tn tc) (.int .i64 pins)) := ⟨(Below.refl _ _).alloc (Nat.le_refl _) _, E13.new w _ _ _ _ _ _ _ _ _ _ _ _ _ _⟩
  have HI : Hid (∀ w, Calls Tryd.prog 38 #[.int .i64 st] w fun r w' => r = .returned (.bool (stB st)) ∧ w' = w) := mayKeep_any st
  have HH : Hid (∀ X, Below w.heap.size w X → Calls Tryd.prog 39 #[.slice ha hs.length hc] X fun e w' => e = .returned (.int .i64 (headsC hs)) ∧ Below X.heap.size X w') := fun X hb => implHFault_any X ha hc hs hhl (hset.below hb) (hH.keep hb)
  have HM : Hid (∀ X, Calls Tryd.prog 40 #[.agg #[.int .i64 t, .int .i64 g, .int .i64 l, .int .i64 s, .int .i64 e, .bool b1, .bool b2]] X fun r w' => r = .returned (.int .i64 (metaC t g l s e)) ∧ Below X.heap.size X w') := fun X => implMeta_any t g l s e b1 b2 X
  obtain ⟨Z, hZ⟩ : ∃ Z, entryC key st pins hs bn tn t g l s e = Z := ⟨_, rfl⟩
  rw [hZ]
  unfold entryC at hZ
  obtain ⟨hcd, hhc⟩ : ∃ x, headsC hs = x := ⟨_, rfl⟩
  obtain ⟨mcd, hmc⟩ : ∃ x, metaC t g l s e = x := ⟨_, rfl⟩
  obtain ⟨sb, hsb⟩ : ∃ x, stB st = x := ⟨_, rfl⟩
  rw [hhc] at HH hZ
  rw [hmc] at HM hZ
  rw [hsb] at HI hZ
  clear hhc hmc hsb hH hhl hset
  generalize hs.length = hl at *
  unfold maxLen at hk hbn htn
  have HZ : Hid (_ = Z) := hZ
  clear hZ
  by_cases c1 : key.size < 1
  · have HR := HZ.out
    rw [if_pos (.inl c1)] at HR
    rw [← HR]
    clear HR HZ
    go_enter Tryd.func11, Tryd.ntmps11
    go_wp2_with fail
    go_ret
    exact ⟨rfl, HK.out.1⟩
  by_cases c2 : 500 < key.size
  · have HR := HZ.out
    rw [if_pos (.inr c2)] at HR
    rw [← HR]
    clear HR HZ
    go_enter Tryd.func11, Tryd.ntmps11
    go_wp2_with fail
    go_ret
    exact ⟨rfl, HK.out.1⟩
  rw [if_neg (by omega)] at HZ
  cases sb
  · have HR := HZ.out
    rw [if_pos (Bool.false_and _)] at HR
    rw [← HR]
    clear HR HZ
    go_enter Tryd.func11, Tryd.ntmps11
    go_wp2_with fail
    refine (HI.out _).mono ?_
    rintro r w1 ⟨rfl, rfl⟩
    go_wp2_with fail
    go_ret
    exact ⟨rfl, HK.out.1⟩
  rw [Bool.true_and] at HZ
  by_cases p1 : pins < 0
  · have HR := HZ.out
    rw [if_pos (by unfold pinB; simp; omega)] at HR
    rw [← HR]
    clear HR HZ
    go_enter Tryd.func11, Tryd.ntmps11
    go_wp2_with fail
    refine (HI.out _).mono ?_
    rintro r w1 ⟨rfl, rfl⟩
    have q12 := HK.out.2.c12
    go_wp2_with fail
    go_ret
    exact ⟨rfl, HK.out.1⟩
  by_cases p2 : 20 < pins
  · have HR := HZ.out
    rw [if_pos (by unfold pinB; simp; omega)] at HR
    rw [← HR]
    clear HR HZ
    go_enter Tryd.func11, Tryd.ntmps11
    go_wp2_with fail
    refine (HI.out _).mono ?_
    rintro r w1 ⟨rfl, rfl⟩
    have q12 := HK.out.2.c12
    go_wp2_with fail
    go_ret
    exact ⟨rfl, HK.out.1⟩
  rw [if_neg (by unfold pinB; simp; omega)] at HZ
  by_cases c3 : hcd ≠ 0
  · have HR := HZ.out
    rw [if_pos c3] at HR
    rw [← HR]
    clear HR HZ
    go_enter Tryd.func11, Tryd.ntmps11
    go_wp2_with fail
    refine (HI.out _).mono ?_
    rintro r w1 ⟨rfl, rfl⟩
    have q12 := HK.out.2.c12
    have q2 := HK.out.2.c2
    go_wp2_with fail
    refine (HH.out _ HK.out.1).mono ?_
    rintro r w2 ⟨rfl, hb2⟩
    have HB2 : Hid (Below w.heap.size w w2) := HK.out.1.trans (hb2.mono HK.out.1.size)
    clear hb2
    go_wp2_with fail
    go_ret
    exact ⟨rfl, HB2.out⟩
  rw [if_neg c3] at HZ
  have c3' : hcd = 0 := by omega
  subst c3'
  clear c3
  by_cases c4 : 2000 < bn
  · have HR := HZ.out
    rw [if_pos (.inl c4)] at HR
    rw [← HR]
    clear HR HZ
    go_enter Tryd.func11, Tryd.ntmps11
    go_wp2_with fail
    refine (HI.out _).mono ?_
    rintro r w1 ⟨rfl, rfl⟩
    have q12 := HK.out.2.c12
    have q2 := HK.out.2.c2
    go_wp2_with fail
    refine (HH.out _ HK.out.1).mono ?_
    rintro r w2 ⟨rfl, hb2⟩
    have HK2 : Hid (Below w.heap.size w w2 ∧ E13 w2 w.heap.size (.string key) (.int .i64 st) (.slice ha hl hc) (.slice ba bn bc) (.int .i64 t) (.int .i64 g) (.int .i64 l) (.int .i64 s) (.int .i64 e) (.bool b1) (.bool b2) (.slice ta tn tc) (.int .i64 pins)) := ⟨HK.out.1.trans (hb2.mono HK.out.1.size), HK.out.2.keep hb2⟩
    clear hb2
    have k3 := HK2.out.2.c3
    have k4 := HK2.out.2.c4
    have k5 := HK2.out.2.c5
    have k6 := HK2.out.2.c6
    have k7 := HK2.out.2.c7
    have k8 := HK2.out.2.c8
    have k9 := HK2.out.2.c9
    have k10 := HK2.out.2.c10
    have k11 := HK2.out.2.c11
    go_wp2_with fail
    go_ret
    exact ⟨rfl, HK2.out.1⟩
  by_cases c5 : 10 < tn
  · have HR := HZ.out
    rw [if_pos (.inr c5)] at HR
    rw [← HR]
    clear HR HZ
    go_enter Tryd.func11, Tryd.ntmps11
    go_wp2_with fail
    refine (HI.out _).mono ?_
    rintro r w1 ⟨rfl, rfl⟩
    have q12 := HK.out.2.c12
    have q2 := HK.out.2.c2
    go_wp2_with fail
    refine (HH.out _ HK.out.1).mono ?_
    rintro r w2 ⟨rfl, hb2⟩
    have HK2 : Hid (Below w.heap.size w w2 ∧ E13 w2 w.heap.size (.string key) (.int .i64 st) (.slice ha hl hc) (.slice ba bn bc) (.int .i64 t) (.int .i64 g) (.int .i64 l) (.int .i64 s) (.int .i64 e) (.bool b1) (.bool b2) (.slice ta tn tc) (.int .i64 pins)) := ⟨HK.out.1.trans (hb2.mono HK.out.1.size), HK.out.2.keep hb2⟩
    clear hb2
    have k3 := HK2.out.2.c3
    have k4 := HK2.out.2.c4
    have k5 := HK2.out.2.c5
    have k6 := HK2.out.2.c6
    have k7 := HK2.out.2.c7
    have k8 := HK2.out.2.c8
    have k9 := HK2.out.2.c9
    have k10 := HK2.out.2.c10
    have k11 := HK2.out.2.c11
    go_wp2_with fail
    go_ret
    exact ⟨rfl, HK2.out.1⟩
  rw [if_neg (by omega)] at HZ
  · rw [← HZ.out]
    clear HZ
    go_enter Tryd.func11, Tryd.ntmps11
    go_wp2_with fail
    refine (HI.out _).mono ?_
    rintro r w1 ⟨rfl, rfl⟩
    have q12 := HK.out.2.c12
    have q2 := HK.out.2.c2
    go_wp2_with fail
    refine (HH.out _ HK.out.1).mono ?_
    rintro r w2 ⟨rfl, hb2⟩
    have HK2 : Hid (Below w.heap.size w w2 ∧ E13 w2 w.heap.size (.string key) (.int .i64 st) (.slice ha hl hc) (.slice ba bn bc) (.int .i64 t) (.int .i64 g) (.int .i64 l) (.int .i64 s) (.int .i64 e) (.bool b1) (.bool b2) (.slice ta tn tc) (.int .i64 pins)) := ⟨HK.out.1.trans (hb2.mono HK.out.1.size), HK.out.2.keep hb2⟩
    clear hb2
    have k3 := HK2.out.2.c3
    have k4 := HK2.out.2.c4
    have k5 := HK2.out.2.c5
    have k6 := HK2.out.2.c6
    have k7 := HK2.out.2.c7
    have k8 := HK2.out.2.c8
    have k9 := HK2.out.2.c9
    have k10 := HK2.out.2.c10
    have k11 := HK2.out.2.c11
    go_wp2_with fail
    refine (HM.out _).mono ?_
    rintro r w3 ⟨rfl, hb3⟩
    have HB3 : Hid (Below w.heap.size w w3) := HK2.out.1.trans (hb3.mono HK2.out.1.size)
    clear hb3
    go_wp2_with fail
    go_ret
    exact ⟨rfl, HB3.out⟩
end Go.Proofs.YtelbddgdaibolaaDoor
/-
  What PackHeaders and its model answer.
-/
namespace Go.Proofs.YtelbddgdaibolaaDoor
open Go.ChangeShapes Go.WideShapes Go.ChangeAt Go.RowKit Go.Sort
set_option maxRecDepth 100000 in
set_option maxHeartbeats 4000000 in
theorem implPack_ok (w : World) (a : Option Addr) (cap : Nat) (l : List Hdr) (h0 : headsC l = 0) (hset : SetIs w) (hi : HdsIn w a l) :
    Calls Tryd.prog 67 #[.slice a l.length cap] w fun e w' => e = .returned (.agg #[.int .i64 0, .string ⟨(packL l).toArray⟩]) ∧ Below w.heap.size w w' := by
  obtain ⟨h20, hfl⟩ := headsC_zero h0
  have HF : Hid (∀ W, Below w.heap.size w W → Calls Tryd.prog 39 #[.slice a l.length cap] W fun e w' => e = .returned (.int .i64 0) ∧ Below W.heap.size W w') := fun W hb => by
    have := implHFault_any W a cap l (by omega) (hset.below hb) (hi.keep hb)
    rw [h0] at this
    exact this
  have HI : Hid (HdsIn w a l) := hi
  have HZ : Hid (∀ (i : Nat) r, l[i]? = some r → r.name.size ≤ 64 ∧ r.value.size ≤ 200) := fun i r hr => by obtain ⟨x1, x2, _⟩ := faultH_zero (hfl i r hr); exact ⟨hword_max x1, x2⟩
  clear hi hset hfl h0
  generalize hn : l.length = n at *
  have HN : Hid (l.length = n) := hn
  clear hn
  go_enter Tryd.func67, Tryd.ntmps67
  go_wp2_with fail
  refine (HF.out _ ((Below.refl _ _).alloc (Nat.le_refl _) _)).mono ?_
  rintro e w1 ⟨rfl, hb1⟩
  rw [World.size_alloc] at hb1
  have HB1 : Hid (Below (w.heap.size + 1) (w.alloc (.cells #[.int .i64 0, .string ⟨#[]⟩] 106)) w1) := hb1
  clear hb1 HF
  go_wp2_with fail
  go_loopw [4, 15] (fun v i wr => ∃ (k : Nat) (o : ByteArray), k ≤ n ∧ i = .int .i64 k ∧ v = .string o ∧ o.data.toList = packL (l.take k) ∧ o.size ≤ k * 268 ∧ Below (w.heap.size + 1) (w.alloc (.cells #[.int .i64 0, .string ⟨#[]⟩] 106)) wr) (fun _ i _ => n - (intOf i).toNat)
  case atStart => exact ⟨0, ⟨#[]⟩, Nat.zero_le _, rfl, rfl, rfl, Nat.zero_le _, HB1.out⟩
  case round =>
    obtain ⟨k, o, hk, rfl, rfl, ho, hos, hb⟩ := hrel
    have HO : Hid (o.data.toList = packL (l.take k)) := ho
    have hz : w.heap.size + 1 ≤ wr.heap.size := by have := hb.size; rwa [World.size_alloc] at this
    clear ho HB1
    by_cases hlt : k < n
    · obtain ⟨r, hr⟩ : ∃ r, l[k]? = some r := ⟨l[k]'(by have := HN.out; omega), List.getElem?_eq_getElem _⟩
      obtain ⟨b, off, rfl, hat⟩ := HI.out.ok hr
      have hwr : Below w.heap.size w wr := ((Below.refl _ _).alloc (Nat.le_refl _) _).trans (hb.mono (Nat.le_succ _))
      obtain ⟨p1, p3⟩ := (hat.keep hwr) k r hr
      obtain ⟨z1, z2⟩ := HZ.out k r hr
      have HJ : Hid (packL (l.take (k + 1)) = packL (l.take k) ++ lineL r) := packL_take hr
      have gk : (k : Int) < n := by omega
      clear hr hat HI hwr HZ
      obtain ⟨rn, rv⟩ := r
      simp only at p1 p3 z1 z2
      have hoz : o.size ≤ 6000 := by omega
      have HT : Hid ((o ++ (rn ++ ⟨#[58, 32]⟩ ++ rv ++ ⟨#[13, 10]⟩) : ByteArray).data.toList = packL (l.take (k + 1))) := by
        show _ = _
        rw [HJ.out, line_app2, HO.out]
      have HU : Hid ((o ++ (rn ++ ⟨#[58, 32]⟩ ++ rv ++ ⟨#[13, 10]⟩) : ByteArray).size ≤ (k + 1) * 268) := by
        show _ ≤ _
        simp only [ByteArray.size_append, show (⟨#[58, 32]⟩ : ByteArray).size = 2 from rfl, show (⟨#[13, 10]⟩ : ByteArray).size = 2 from rfl]
        omega
      clear HJ HO
      go_wp2_with fail
      go_roundw
      case rel => exact ⟨k + 1, o ++ (rn ++ ⟨#[58, 32]⟩ ++ rv ++ ⟨#[13, 10]⟩), by omega, by go_num, rfl, HT.out, HU.out, hb.alloc hz _⟩
      case measure => simp [intOf]; omega
    · have HT : Hid ((⟨(packL l).toArray⟩ : ByteArray) = o) := by
        show _ = _
        rw [← List.take_of_length_le (l := l) (i := k) (by have := HN.out; omega), ← HO.out]
      obtain ⟨hz2, q0, q1, f0, f1, kb⟩ := text_room hb
      obtain ⟨r0, r1⟩ := two_set (v0 := .int .i64 0) (v1 := .string o) q0 q1
      clear HO hb
      go_wp2_with fail
      exact bodyPost_ret (v := .agg #[.int .i64 0, .string o]) (by simp [results, Tryd.results67, go_sem, r0, r1]) rfl ⟨by rw [HT.out], (kb.setCell (Nat.le_refl _) _).setCell (Nat.le_refl _) _⟩
set_option maxHeartbeats 1000000 in
theorem implPack_any (w : World) (a : Option Addr) (cap : Nat) (l : List Hdr) (hl : l.length ≤ 1048576) (hset : SetIs w) (hi : HdsIn w a l) :
    Calls Tryd.prog 67 #[.slice a l.length cap] w fun e w' => e = .returned (.agg #[.int .i64 (headsC l), .string (packT l)]) ∧ Below w.heap.size w w' := by
  by_cases h0 : headsC l = 0
  · rw [packT_ok h0, h0]
    exact implPack_ok w a cap l h0 hset hi
  · have HF : Hid (∀ W, Below w.heap.size w W → Calls Tryd.prog 39 #[.slice a l.length cap] W fun e w' => e = .returned (.int .i64 (headsC l)) ∧ Below W.heap.size W w') := fun W hb => implHFault_any W a cap l hl (hset.below hb) (hi.keep hb)
    rw [packT_bad h0]
    clear hi hset
    generalize headsC l = fc at *
    generalize l.length = n at *
    go_enter Tryd.func67, Tryd.ntmps67
    go_wp2_with fail
    refine (HF.out _ ((Below.refl _ _).alloc (Nat.le_refl _) _)).mono ?_
    rintro e w1 ⟨rfl, hb1⟩
    rw [World.size_alloc] at hb1
    obtain ⟨hz2, q0, q1, f0, f1, kb⟩ := text_room hb1
    obtain ⟨r0, r1⟩ := two_set (v0 := .int .i64 fc) (v1 := .string ⟨#[]⟩) q0 q1
    clear hb1 HF
    go_wp2_with fail
    exact bodyPost_ret (v := .agg #[.int .i64 fc, .string ⟨#[]⟩]) (by simp [results, Tryd.results67, go_sem, r0, r1]) rfl ⟨rfl, (kb.setCell (Nat.le_refl _) _).setCell (Nat.le_refl _) _⟩
end Go.Proofs.YtelbddgdaibolaaDoor
/-
  What an entry costs, by the program.
-/
namespace Go.Proofs.YtelbddgdaibolaaDoor
open Go.ChangeShapes Go.WideShapes Go.ChangeAt Go.RowKit Go.Sort
theorem cfield_text (c : Int) (t : ByteArray) (w : World) : (Instr.field 106 (.agg #[.int .i64 c, .string t]) 1).run Tryd.prog w = .ok (.string t) w := by kernel_rfl
set_option maxRecDepth 100000 in
set_option maxHeartbeats 4000000 in
theorem costOne_at (w : World) (b off : Nat) (key : ByteArray) (ha : Option Addr) (hc : Nat) (hs : List Hdr) (ba : Option Addr) (bn bc : Nat) (hset : SetIs w)
    (h0 : w.cell? ⟨b, off, none⟩ = some (.string key)) (h2 : w.cell? ⟨b, off + 2, none⟩ = some (.slice ha hs.length hc)) (h3 : w.cell? ⟨b, off + 3, none⟩ = some (.slice ba bn bc))
    (hk : key.size ≤ 500) (hb : bn ≤ 2000) (hh : headsC hs = 0) (hH : HdsIn w ha hs) :
    Calls Tryd.prog 46 #[.pointer (some ⟨b, off, none⟩)] w fun r w' => r = .returned (.int .i64 (costN key hs bn)) ∧ Below w.heap.size w w' := by
  obtain ⟨h20, hfl⟩ := headsC_zero hh
  have hlen := packL_len4 hs (fun r hr => by obtain ⟨i, hi⟩ := List.mem_iff_getElem?.1 hr; exact hfl i r hi)
  have HC : Hid (∀ X, Below w.heap.size w X → Calls Tryd.prog 67 #[.slice ha hs.length hc] X fun e w' => e = .returned (.agg #[.int .i64 0, .string ⟨(packL hs).toArray⟩]) ∧ Below X.heap.size X w') := fun X hX => by
    have := implPack_any X ha hc hs (by omega) (hset.below hX) (hH.keep hX)
    rw [hh, show packT hs = ⟨(packL hs).toArray⟩ from by unfold packT; rw [if_pos hh]] at this
    exact this
  have hsz : ((⟨(packL hs).toArray⟩ : ByteArray).size : Int) = ((packL hs).length : Int) := by simp [ByteArray.size]
  unfold costN
  have hlt : b < w.heap.size := block_lt_of_cell h0
  have HKS : Hid (∀ X, Below w.heap.size w X → X.cell? ⟨b, off, none⟩ = some (.string key) ∧ X.cell? ⟨b, off + 2, none⟩ = some (.slice ha hs.length hc) ∧ X.cell? ⟨b, off + 3, none⟩ = some (.slice ba bn bc)) := fun X hX => ⟨by rw [hX.cell (p := ⟨b, off, none⟩) hlt]; exact h0, by rw [hX.cell (p := ⟨b, off + 2, none⟩) hlt]; exact h2, by rw [hX.cell (p := ⟨b, off + 3, none⟩) hlt]; exact h3⟩
  generalize hP : (⟨(packL hs).toArray⟩ : ByteArray) = pk at *
  rw [← hsz]
  have hpk : pk.size ≤ 5360 := by omega
  clear hH hfl hlen hsz hh hP h20 h2 h3 hset
  generalize hs.length = hl at *
  have hfd := cfield_text
  have e1 : IntKind.i64.wrap (50 + (key.size : Int)) = 50 + (key.size : Int) := by
    unfold IntKind.wrap; simp [IntKind.signed, IntKind.bits]; omega
  have e2 : IntKind.i64.wrap (50 + (key.size : Int) + (pk.size : Int)) = 50 + (key.size : Int) + (pk.size : Int) := by
    unfold IntKind.wrap; simp [IntKind.signed, IntKind.bits]; omega
  have e3 : IntKind.i64.wrap (50 + (key.size : Int) + (pk.size : Int) + (bn : Int)) = 50 + (key.size : Int) + (pk.size : Int) + (bn : Int) := by
    unfold IntKind.wrap; simp [IntKind.signed, IntKind.bits]; omega
  have B0 : Hid (Below w.heap.size w w.drew) := (Below.refl _ _).drew
  go_enter Tryd.func46, Tryd.ntmps46
  go_wp2_with fail
  go_region_held3 (fun X => X.cell? ⟨b, off, none⟩ = some (.string key) ∧ X.cell? ⟨b, off + 2, none⟩ = some (.slice ha hl hc) ∧ X.cell? ⟨b, off + 3, none⟩ = some (.slice ba bn bc))
    (first | exact HKS.out _ BA.out | exact HKS.out _ B0.out)
    (first | (go_at_call 67; refine (HC.out _ B0.out).mono ?_; rintro e0 wa ⟨rfl, hba⟩; have BA : Hid (Below w.heap.size w wa) := B0.out.trans (hba.mono B0.out.size); clear hba))
  all_goals
    go_wp2_with fail
    go_ret
    exact ⟨ret_int (by omega), BA.out⟩
set_option maxHeartbeats 8000000 in
theorem implCost_any (w : World) (key : ByteArray) (st : Int) (ha : Option Addr) (hc : Nat) (ba : Option Addr) (bc : Nat) (t g l s e : Int) (b1 b2 : Bool) (ta : Option Addr) (tc : Nat) (pins : Int) (hs : List Hdr) (bn tn : Nat) (hk : key.size ≤ maxLen) (hhl : hs.length ≤ 1048576) (hbn : bn ≤ maxLen) (htn : tn ≤ maxLen) (hset : SetIs w) (hH : HdsIn w ha hs) :
    Calls Tryd.prog 14 #[.agg #[.string key, .int .i64 st, .slice ha hs.length hc, .slice ba bn bc, .int .i64 t, .int .i64 g, .int .i64 l, .int .i64 s, .int .i64 e, .bool b1, .bool b2, .slice ta tn tc, .int .i64 pins]] w fun r w' => r = .returned (.agg #[.int .i64 (entryC key st pins hs bn tn t g l s e), .int .i64 (if entryC key st pins hs bn tn t g l s e = 0 then costN key hs bn else 0)]) ∧ Below w.heap.size w w' := by
  have HF : Hid (∀ X, Below w.heap.size w X → Calls Tryd.prog 11 #[.agg #[.string key, .int .i64 st, .slice ha hs.length hc, .slice ba bn bc, .int .i64 t, .int .i64 g, .int .i64 l, .int .i64 s, .int .i64 e, .bool b1, .bool b2, .slice ta tn tc, .int .i64 pins]] X fun r w' => r = .returned (.int .i64 (entryC key st pins hs bn tn t g l s e)) ∧ Below X.heap.size X w') := fun X hb => implEntry_any X key st ha hc ba bc t g l s e b1 b2 ta tc pins hs bn tn hk hhl hbn htn (hset.below hb) (hH.keep hb)
  have HC : Hid (entryC key st pins hs bn tn t g l s e = 0 → ∀ X, Below w.heap.size w X → E13 X w.heap.size (.string key) (.int .i64 st) (.slice ha hs.length hc) (.slice ba bn bc) (.int .i64 t) (.int .i64 g) (.int .i64 l) (.int .i64 s) (.int .i64 e) (.bool b1) (.bool b2) (.slice ta tn tc) (.int .i64 pins) → Calls Tryd.prog 46 #[.pointer (some ⟨w.heap.size, 0, none⟩)] X fun r w' => r = .returned (.int .i64 (costN key hs bn)) ∧ Below X.heap.size X w') := fun h0 X hb k => by
    obtain ⟨z1, _, _, z4, z5, _, _⟩ := entryC_zero h0
    exact costOne_at X w.heap.size 0 key ha hc hs ba bn bc (hset.below hb) k.c0 k.c2 k.c3 z1.2 z5 z4 (hH.keep hb)
  have K0 : Hid (Below w.heap.size w ((w.alloc (.cells #[.string key, .int .i64 st, .slice ha hs.length hc, .slice ba bn bc, .int .i64 t, .int .i64 g, .int .i64 l, .int .i64 s, .int .i64 e, .bool b1, .bool b2, .slice ta tn tc, .int .i64 pins] 34)).alloc (.cells #[.int .i64 0, .int .i64 0] 39)) ∧ E13 ((w.alloc (.cells #[.string key, .int .i64 st, .slice ha hs.length hc, .slice ba bn bc, .int .i64 t, .int .i64 g, .int .i64 l, .int .i64 s, .int .i64 e, .bool b1, .bool b2, .slice ta tn tc, .int .i64 pins] 34)).alloc (.cells #[.int .i64 0, .int .i64 0] 39)) w.heap.size (.string key) (.int .i64 st) (.slice ha hs.length hc) (.slice ba bn bc) (.int .i64 t) (.int .i64 g) (.int .i64 l) (.int .i64 s) (.int .i64 e) (.bool b1) (.bool b2) (.slice ta tn tc) (.int .i64 pins) ∧ IR ((w.alloc (.cells #[.string key, .int .i64 st, .slice ha hs.length hc, .slice ba bn bc, .int .i64 t, .int .i64 g, .int .i64 l, .int .i64 s, .int .i64 e, .bool b1, .bool b2, .slice ta tn tc, .int .i64 pins] 34)).alloc (.cells #[.int .i64 0, .int .i64 0] 39)) (w.heap.size + 1) (.int .i64 0) (.int .i64 0)) := by
    have b0 : Below w.heap.size w ((w.alloc (.cells #[.string key, .int .i64 st, .slice ha hs.length hc, .slice ba bn bc, .int .i64 t, .int .i64 g, .int .i64 l, .int .i64 s, .int .i64 e, .bool b1, .bool b2, .slice ta tn tc, .int .i64 pins] 34)).alloc (.cells #[.int .i64 0, .int .i64 0] 39)) := ((Below.refl _ _).alloc (Nat.le_refl _) _).alloc (by simp) _
    refine ⟨b0, (E13.new w _ _ _ _ _ _ _ _ _ _ _ _ _ _).keep ((Below.refl _ _).alloc (Nat.le_refl _) _), ?_⟩
    refine ⟨by simp, by simp, fun o => by simp, by simp⟩
  clear hH hk hbn htn hhl hset
  obtain ⟨fc, hfc⟩ : ∃ x, entryC key st pins hs bn tn t g l s e = x := ⟨_, rfl⟩
  rw [hfc] at HF HC ⊢
  clear hfc
  generalize hs.length = hl at *
  generalize costN key hs bn = cn at *
  by_cases c0 : fc = 0
  · subst c0
    have HC0 := HC.out rfl
    have HC1 : Hid (∀ X, Below w.heap.size w X → E13 X w.heap.size (.string key) (.int .i64 st) (.slice ha hl hc) (.slice ba bn bc) (.int .i64 t) (.int .i64 g) (.int .i64 l) (.int .i64 s) (.int .i64 e) (.bool b1) (.bool b2) (.slice ta tn tc) (.int .i64 pins) → Calls Tryd.prog 46 #[.pointer (some ⟨w.heap.size, 0, none⟩)] X fun r w' => r = .returned (.int .i64 cn) ∧ Below X.heap.size X w') := HC0
    clear HC HC0
    rw [if_pos rfl]
    go_enter Tryd.func14, Tryd.ntmps14
    go_wp2_with fail
    refine (HF.out _ K0.out.1).mono ?_
    rintro r w1 ⟨rfl, hb1⟩
    have K1 : Hid (Below w.heap.size w w1 ∧ E13 w1 w.heap.size (.string key) (.int .i64 st) (.slice ha hl hc) (.slice ba bn bc) (.int .i64 t) (.int .i64 g) (.int .i64 l) (.int .i64 s) (.int .i64 e) (.bool b1) (.bool b2) (.slice ta tn tc) (.int .i64 pins) ∧ IR w1 (w.heap.size + 1) (.int .i64 0) (.int .i64 0)) := ⟨K0.out.1.trans (hb1.mono K0.out.1.size), K0.out.2.1.keep hb1, K0.out.2.2.keep hb1⟩
    clear hb1 K0 HF
    go_wp2_with fail
    refine (HC1.out _ K1.out.1 K1.out.2.1).mono ?_
    rintro r w2 ⟨rfl, hb2⟩
    have K2 : Hid (Below w.heap.size w w2 ∧ E13 w2 w.heap.size (.string key) (.int .i64 st) (.slice ha hl hc) (.slice ba bn bc) (.int .i64 t) (.int .i64 g) (.int .i64 l) (.int .i64 s) (.int .i64 e) (.bool b1) (.bool b2) (.slice ta tn tc) (.int .i64 pins) ∧ IR w2 (w.heap.size + 1) (.int .i64 0) (.int .i64 0)) := ⟨K1.out.1.trans (hb2.mono K1.out.1.size), K1.out.2.1.keep hb2, K1.out.2.2.keep hb2⟩
    clear hb2 K1 HC1
    obtain ⟨r0, r1, rf, _⟩ := K2.out.2.2
    have rf0 := rf 0
    have rf1 := rf 1
    clear rf
    go_wp2_with fail
    refine bodyPost_ret (v := .agg #[.int .i64 0, .int .i64 cn]) ?_ rfl ⟨rfl, (K2.out.1.setCell (by simp) _).setCell (by simp) _⟩
    simp [results, Tryd.results14, go_sem, r0, r1]
  · rw [if_neg c0]
    clear HC
    go_enter Tryd.func14, Tryd.ntmps14
    go_wp2_with fail
    refine (HF.out _ K0.out.1).mono ?_
    rintro r w1 ⟨rfl, hb1⟩
    have K1 : Hid (Below w.heap.size w w1 ∧ E13 w1 w.heap.size (.string key) (.int .i64 st) (.slice ha hl hc) (.slice ba bn bc) (.int .i64 t) (.int .i64 g) (.int .i64 l) (.int .i64 s) (.int .i64 e) (.bool b1) (.bool b2) (.slice ta tn tc) (.int .i64 pins) ∧ IR w1 (w.heap.size + 1) (.int .i64 0) (.int .i64 0)) := ⟨K0.out.1.trans (hb1.mono K0.out.1.size), K0.out.2.1.keep hb1, K0.out.2.2.keep hb1⟩
    clear hb1 K0 HF
    obtain ⟨r0, r1, rf, _⟩ := K1.out.2.2
    have rf0 := rf 0
    have rf1 := rf 1
    clear rf
    go_wp2_with fail
    refine bodyPost_ret (v := .agg #[.int .i64 fc, .int .i64 0]) ?_ rfl ⟨rfl, (K1.out.1.setCell (by simp) _).setCell (by simp) _⟩
    simp [results, Tryd.results14, go_sem, r0, r1]
end Go.Proofs.YtelbddgdaibolaaDoor
/-
  What the entries of a shelf cost together, by the program.
-/
namespace Go.Proofs.YtelbddgdaibolaaDoor
open Go.ChangeShapes Go.WideShapes Go.ChangeAt Go.RowKit Go.Sort
theorem costOne_h (w : World) (h : Hdl) (hset : SetIs w) (ht : HThere w h) (h0 : entC h.x = 0) :
    Calls Tryd.prog 46 #[.pointer (some ⟨h.b, h.o, none⟩)] w fun r w' => r = .returned (.int .i64 (entN h.x)) ∧ Below w.heap.size w w' := by
  obtain ⟨z1, _, _, z4, z5, _, _⟩ := entryC_zero h0
  have c := ht.cells
  exact costOne_at w h.b h.o h.x.key h.r.ha h.r.hc h.x.hs h.r.ba h.x.bl.length h.r.bc hset c.1 c.2.2.1 c.2.2.2.1 z1.2 z5 z4 ht.2.h
set_option maxRecDepth 100000 in
set_option maxHeartbeats 8000000 in
theorem shSum_any (w : World) (v : Value) (base : Nat) (l : List Hdl) (ho : OwnP w base v l) (hset : SetIs w) (hl : l.length ≤ 41) (hth : ∀ h ∈ l, HThere w h) (hz : ∀ h ∈ l, entC h.x = 0) :
    Calls Tryd.prog 55 #[.agg #[v], .func (.func 46) #[] #[]] w fun e w' => e = .returned (.int .i64 (costsE (l.map Hdl.x))) ∧ Below w.heap.size w w' := by
  obtain ⟨va, vc, rfl, _, hf⟩ := ho.form
  have HC : Hid (∀ (k : Nat) h, l[k]? = some h → ∃ g, va = some ⟨g, 0, none⟩ ∧ g < w.heap.size ∧ w.cell? ⟨g, k, none⟩ = some (.pointer (some ⟨h.b, h.o, none⟩))) := fun k h hk => by
    rcases hf with rfl | ⟨g, e, _, hg, hc⟩
    · simp at hk
    · exact ⟨g, e, hg, hc k h hk⟩
  have HT : Hid (∀ X, Below w.heap.size w X → ∀ h ∈ l, Calls Tryd.prog 46 #[.pointer (some ⟨h.b, h.o, none⟩)] X fun r w' => r = .returned (.int .i64 (entN h.x)) ∧ Below X.heap.size X w') := fun X hX h hh => costOne_h X h (hset.below hX) ((hth h hh).keep hX) (hz h hh)
  have HZ : Hid (∀ h ∈ l, entC h.x = 0) := hz
  clear hf ho hth hz hset
  obtain ⟨S, hS⟩ : ∃ S, Hid (costsE (l.map Hdl.x) = S) := ⟨_, rfl⟩
  rw [hS.out]
  generalize hn : l.length = n at *
  have HN : Hid (l.length = n) := hn
  clear hn
  have B0 : Hid (Below w.heap.size w (w.alloc (.cells #[.slice va n vc] 84))) := (Below.refl _ _).alloc (Nat.le_refl _) _
  go_enter Tryd.func55, Tryd.ntmps55
  go_wp2_with fail
  go_loopw [5, 11] (fun x i wr => ∃ (k : Nat) (c : Int), k ≤ n ∧ i = .int .i64 k ∧ x = .int .i64 c ∧ 0 ≤ c ∧ c ≤ 8000 * k ∧ S = c + costsE ((l.map Hdl.x).drop k) ∧ Below w.heap.size w wr) (fun _ i _ => n - (intOf i).toNat)
  case atStart => exact ⟨0, 0, Nat.zero_le _, rfl, rfl, by omega, by omega, by rw [← hS.out]; simp, B0.out⟩
  case round =>
    obtain ⟨k, c, hk, rfl, rfl, c2, c3, hs, hb⟩ := hrel
    have HS : Hid (S = c + costsE ((l.map Hdl.x).drop k)) := hs
    clear hs hS B0
    by_cases hlt : k < n
    · obtain ⟨q, hr⟩ : ∃ r, l[k]? = some r := ⟨l[k]'(by have := HN.out; omega), List.getElem?_eq_getElem _⟩
      obtain ⟨g', rfl, hg, hc⟩ := HC.out k q hr
      have p1 : wr.cell? ⟨g', k, none⟩ = some (.pointer (some ⟨q.b, q.o, none⟩)) := by rw [hb.cell (p := ⟨g', k, none⟩) hg]; exact hc
      have hle := entN_le (HZ.out q (List.mem_of_getElem? hr))
      have HS2 : Hid (S = c + entN q.x + costsE ((l.map Hdl.x).drop (k + 1))) := by
        show _ = _
        obtain ⟨hk2, hr2⟩ := List.getElem?_eq_some_iff.1 hr
        rw [HS.out, List.drop_eq_getElem_cons (i := k) (by simpa using hk2), costsE]
        simp [hr2]
        omega
      have C : Hid (Calls Tryd.prog 46 #[.pointer (some ⟨q.b, q.o, none⟩)] wr fun r w' => r = .returned (.int .i64 (entN q.x)) ∧ Below wr.heap.size wr w') := HT.out wr hb q (List.mem_of_getElem? hr)
      have g : (k : Int) < n := by omega
      have g0 : (0 : Int) ≤ k := by omega
      have HB : Hid (Below w.heap.size w wr) := hb
      clear HS hr hc hb HC HT HZ hg
      generalize entN q.x = en at *
      have e1 : IntKind.i64.wrap (c + en) = c + en := by
        unfold IntKind.wrap; simp [IntKind.signed, IntKind.bits]; omega
      go_wp2_with fail
      refine C.out.mono ?_
      rintro r w2 ⟨rfl, hb2⟩
      have HB2 : Hid (Below w.heap.size w w2) := HB.out.trans (hb2.mono HB.out.size)
      clear hb2 C HB p1
      go_wp2_with fail
      go_roundw
      case rel => exact ⟨k + 1, c + en, by omega, by go_num, by first | rfl | rw [e1], by omega, by omega, HS2.out, HB2.out⟩
      case measure => simp [intOf]; omega
    · have HF : Hid (S = c) := by
        show _ = _
        rw [HS.out, List.drop_of_length_le (by have := HN.out; simp; omega), costsE]
        omega
      clear HS
      go_wp2_with fail
      go_ret
      exact ⟨ret_int HF.out.symm, hb⟩
set_option maxRecDepth 100000 in
set_option maxHeartbeats 8000000 in
theorem shCost_any (w : World) (v1 v2 : Value) (base : Nat) (l1 l2 : List Hdl) (h : Two w base v1 v2 l1 l2) (hset : SetIs w) (hl : l1.length + l2.length ≤ 41) (hth : ∀ h ∈ l1 ++ l2, HThere w h) (hz : ∀ h ∈ l1 ++ l2, entC h.x = 0) :
    Calls Tryd.prog 54 #[.agg #[v1, v2]] w fun e w' => e = .returned (.int .i64 (costsE ((l1 ++ l2).map Hdl.x))) ∧ Below w.heap.size w w' := by
  obtain ⟨a1, k1, e1, _⟩ := h.a.form
  obtain ⟨a2, k2, e2, _⟩ := h.b.form
  obtain ⟨W, hW⟩ : ∃ W, W = w.alloc (.cells #[v1, v2] 86) := ⟨_, rfl⟩
  have HW : Hid (W = w.alloc (.cells #[v1, v2] 86)) := hW
  have bW : Below w.heap.size w W := by rw [hW]; exact (Below.refl _ _).alloc (Nat.le_refl _) _
  have q0 := cell_regrown (show W.cell? ⟨w.heap.size, 0, none⟩ = some v1 by rw [hW]; simp)
  have q1 := cell_regrown (show W.cell? ⟨w.heap.size, 1, none⟩ = some v2 by rw [hW]; simp)
  have cA : ∀ d os, Calls Tryd.prog 55 #[.agg #[v1], .func (.func 46) #[] #[]] (grow (redrawn W d) os) fun e w'' => e = .returned (.int .i64 (costsE (l1.map Hdl.x))) ∧ ∃ p : Regrown, w'' = grow (redrawn W p.d) p.os := fun d os => by
    have b := bW.trans ((below_regrown W d os).mono bW.size)
    exact Calls.regrown_of (shSum_any _ v1 base l1 (h.a.below b) (hset.below b) (by omega) (fun x hx => (hth x (List.mem_append_left _ hx)).keep b) (fun x hx => hz x (List.mem_append_left _ hx)))
  have cB : ∀ d os, Calls Tryd.prog 55 #[.agg #[v2], .func (.func 46) #[] #[]] (grow (redrawn W d) os) fun e w'' => e = .returned (.int .i64 (costsE (l2.map Hdl.x))) ∧ ∃ p : Regrown, w'' = grow (redrawn W p.d) p.os := fun d os => by
    have b := bW.trans ((below_regrown W d os).mono bW.size)
    exact Calls.regrown_of (shSum_any _ v2 base l2 (h.b.below b) (hset.below b) (by omega) (fun x hx => (hth x (List.mem_append_right _ hx)).keep b) (fun x hx => hz x (List.mem_append_right _ hx)))
  have n1 := costsE_le (l1.map Hdl.x) (fun x hx => by obtain ⟨y, hy, rfl⟩ := List.mem_map.1 hx; exact hz y (List.mem_append_left _ hy))
  have n2 := costsE_le (l2.map Hdl.x) (fun x hx => by obtain ⟨y, hy, rfl⟩ := List.mem_map.1 hx; exact hz y (List.mem_append_right _ hy))
  rw [List.length_map] at n1 n2
  rw [List.map_append, costsE_app]
  have HB : Hid (Below w.heap.size w W) := bW
  clear hW bW h hth hz hset
  generalize costsE (l1.map Hdl.x) = s1 at *
  generalize costsE (l2.map Hdl.x) = s2 at *
  have ew : IntKind.i64.wrap (s1 + s2) = s1 + s2 := by
    unfold IntKind.wrap; simp [IntKind.signed, IntKind.bits]; omega
  subst e1
  subst e2
  go_enter Tryd.func54, Tryd.ntmps54
  go_wp2_with fail
  rw [← HW.out]
  refine wp_region_quiet_below (by kernel_rfl) (by kernel_rfl) ?_
  repeat (go_big_quiet_step (first | (go_at_call 55; with_reducible exact cA _ _) | (go_at_call 55; with_reducible exact cB _ _)))
  refine wpQuiet_nil ?_
  intro w2 hw2
  have hbb : Below w.heap.size w w2 := by
    obtain ⟨⟨d, os⟩, rfl⟩ := hw2
    exact HB.out.trans ((below_regrown W d os).mono HB.out.size)
  clear hw2 cA cB q0 q1 HW
  go_wp2_with fail
  go_ret
  exact ⟨rfl, hbb⟩
end Go.Proofs.YtelbddgdaibolaaDoor
/-
  A map of texts to places, in memory: what is asked of it, what is laid into it, what goes from it.
-/
namespace Go.Proofs.YtelbddgdaibolaaDoor
open Go.ChangeShapes Go.WideShapes Go.ChangeAt Go.RowKit Go.Maps
open Go.WideMaps (keyOf_string_mk)
theorem isKeyL (x : ByteArray) : WideAt.IsKeyLit (.string x.data.toList) := trivial
theorem hkeyed : Keyed Tryd.prog 9 := string_keyed Tryd.underlying9
theorem hzeroInt (w : World) : (zeroValue 3).run Tryd.prog w = .ok (.int .i64 0) w := by kernel_rfl
def keyL (x : ByteArray) : Lit := .string x.data.toList
theorem keyL_ne {x y : ByteArray} (h : x ≠ y) : keyL x ≠ keyL y := by
  intro e
  unfold keyL at e
  simp only [Lit.string.injEq] at e
  exact h (ByteArray.ext (Array.ext' e))
/-- Block B is a map of at most n entries that has p's places at p's names. -/
def NamesMap (w : World) (B n : Nat) (p : ByteArray → Option Nat) : Prop :=
  ∃ D : DataW Unit, w.ownsMap Tryd.prog 9 (plainElem Tryd.prog 3) B n D ∧ ∀ x : ByteArray, Maps.has D (keyL x) = (p x).isSome ∧ ∀ i, p x = some i → D.atKey (keyL x) (.lit (.int .i64 0)) = .lit (.int .i64 (i : Int))
theorem NamesMap.lt {w : World} {B n : Nat} {p : ByteArray → Option Nat} (h : NamesMap w B n p) : B < w.heap.size := by
  obtain ⟨D, h, _⟩ := h
  exact h.lt
theorem NamesMap.below {w w' : World} {B n : Nat} {p : ByteArray → Option Nat} (h : NamesMap w B n p) (hb : Below w.heap.size w w') : NamesMap w' B n p := by
  have hl := h.lt
  obtain ⟨D, ⟨es, clock, hh, r⟩, h2⟩ := h
  exact ⟨D, ⟨es, clock, by rw [hb.block B hl]; exact hh, r⟩, h2⟩
theorem NamesMap.setCell {w : World} {B n : Nat} {p : ByteArray → Option Nat} (h : NamesMap w B n p) {a : Addr} (ha : B ≠ a.block) (u : Value) : NamesMap (w.setCell a u) B n p := by
  obtain ⟨D, h, h2⟩ := h
  exact ⟨D, h.setCell ha u, h2⟩
theorem NamesMap.made (w : World) : NamesMap (w.alloc (.map #[] 0)) w.heap.size 0 (fun _ => none) :=
  ⟨.map [], World.ownsMap_made w _ _ _, fun x => ⟨rfl, fun i h => by cases h⟩⟩
theorem NamesMap.of {w : World} {B n : Nat} {p q : ByteArray → Option Nat} (h : NamesMap w B n p) (e : ∀ x, p x = q x) : NamesMap w B n q := by
  obtain rfl : p = q := funext e
  exact h
theorem turned_below {w w' : World} {B base : Nat} (h : w.mapTurned w' B) (hb : base ≤ B) : Below base w w' :=
  (Below.refl base w).grown h.grown (by
    obtain ⟨es, clock, es', clock', hh, rfl⟩ := h
    have := (Array.getElem?_eq_some_iff.1 hh).1
    omega) (fun q hq => by cases hq; exact hb)
section
variable {ops : Array Oper} {rest : List Oper} {o : Oper} {a : Act} {Q : Exit → Act → World → Prop}
theorem wpList_look_none (w : World) (hg : o.guard = none) (m x : Operand) (hop : o.op = Op.lookup 110 m x true) (B n : Nat) (p : ByteArray → Option Nat)
    (hm : a.eval m = .map (some B)) (hown : NamesMap w B n p) (key : ByteArray) (hx : a.eval x = .string key) (hk : key.size ≤ 1048576) (hp : p key = none)
    (hK : wpList Tryd.prog ops Q rest (a.put o.dst (.tuple #[.int .i64 0, .bool false])) w) : wpList Tryd.prog ops Q (o :: rest) a w := by
  obtain ⟨D, hD, hat⟩ := hown
  have h1 : Maps.has D (keyL key) = false := by rw [(hat key).1, hp]; rfl
  refine wpList_lookup_own_ok_int w hg m x 110 hop 9 3 .i64 hkeyed Tryd.underlying110 Tryd.underlying3 (hzeroInt w) B n D hm hD _ (keyL key) hx (keyOf_string_mk Tryd.underlying9 (by unfold maxLen; omega)) ?_
  intro c hc _
  rw [atKey_of_not_has h1] at hc
  obtain rfl : c = 0 := by simpa using hc.symm
  rw [h1]
  exact hK
theorem wpList_look_some (w : World) (hg : o.guard = none) (m x : Operand) (hop : o.op = Op.lookup 110 m x true) (B n : Nat) (p : ByteArray → Option Nat)
    (hm : a.eval m = .map (some B)) (hown : NamesMap w B n p) (key : ByteArray) (hx : a.eval x = .string key) (hk : key.size ≤ 1048576) (i : Nat) (hp : p key = some i)
    (hK : wpList Tryd.prog ops Q rest (a.put o.dst (.tuple #[.int .i64 (i : Int), .bool true])) w) : wpList Tryd.prog ops Q (o :: rest) a w := by
  obtain ⟨D, hD, hat⟩ := hown
  have h1 : Maps.has D (keyL key) = true := by rw [(hat key).1, hp]; rfl
  refine wpList_lookup_own_ok_int w hg m x 110 hop 9 3 .i64 hkeyed Tryd.underlying110 Tryd.underlying3 (hzeroInt w) B n D hm hD _ (keyL key) hx (keyOf_string_mk Tryd.underlying9 (by unfold maxLen; omega)) ?_
  intro c hc _
  rw [(hat key).2 i hp] at hc
  obtain rfl : c = (i : Int) := by simpa using hc.symm
  rw [h1]
  exact hK
theorem wpList_put (w : World) (hg : o.guard = none) (m x v : Operand) (hop : o.op = Op.mapUpdate 110 m x v) (B n : Nat) (p : ByteArray → Option Nat)
    (hm : a.eval m = .map (some B)) (hown : NamesMap w B n p) (hn : n ≤ 1048576) (key : ByteArray) (hx : a.eval x = .string key) (hk : key.size ≤ 1048576) (i : Nat) (hi : i ≤ 1048576) (hv : a.eval v = .int .i64 (i : Int)) (base : Nat) (hbase : base ≤ B)
    (hK : ∀ w', NamesMap w' B (n + 1) (fun y => if y = key then some i else p y) → Below base w w' → wpList Tryd.prog ops Q rest (a.put o.dst undef) w') : wpList Tryd.prog ops Q (o :: rest) a w := by
  obtain ⟨D, hD, hat⟩ := hown
  refine wpList_mapUpdate_in w hg m x v 110 hop 9 3 hkeyed Tryd.underlying110 _ B n D hm hD (by unfold maxLen; omega) _ _ (keyL key) hx hv (keyOf_string_mk Tryd.underlying9 (by unfold maxLen; omega)) (.lit (.int .i64 (i : Int))) [] (plainElem_int Tryd.underlying3 (WalkArith.wf_i64 (by omega))) ?_
  intro w' hD' ht
  refine hK w' ⟨_, hD', fun y => ?_⟩ (turned_below ht hbase)
  by_cases e : y = key
  · subst e
    simp only [if_true]
    refine ⟨has_put_same hD.isMap (isKeyL _) _, fun j hj => ?_⟩
    obtain rfl := Option.some.inj hj
    exact atKey_put_same hD.isMap (isKeyL _) _ _
  · simp only [if_neg e]
    rw [has_put_other (keyL_ne e), atKey_put_other (keyL_ne e)]
    exact hat y
theorem wpList_del (w : World) (hg : o.guard = none) (m x : Operand) (hop : o.op = Op.call { callee := Callee.builtin Builtin.delete, args := #[m, x], argTypes := #[110, 9] }) (B n : Nat) (p : ByteArray → Option Nat)
    (hm : a.eval m = .map (some B)) (hown : NamesMap w B n p) (key : ByteArray) (hx : a.eval x = .string key) (hk : key.size ≤ 1048576) (base : Nat) (hbase : base ≤ B)
    (hK : ∀ w', NamesMap w' B n (fun y => if y = key then none else p y) → Below base w w' → wpList Tryd.prog ops Q rest (a.put o.dst (.tuple #[])) w') : wpList Tryd.prog ops Q (o :: rest) a w := by
  obtain ⟨D, hD, hat⟩ := hown
  refine wpList_delete_own w hg m x 110 9 hop 3 hkeyed Tryd.underlying110 _ B n D hm hD _ (keyL key) hx (keyOf_string_mk Tryd.underlying9 (by unfold maxLen; omega)) ?_
  intro w' hD' ht
  refine hK w' ⟨_, hD', fun y => ?_⟩ (turned_below ht hbase)
  by_cases e : y = key
  · subst e
    simp only [if_true]
    exact ⟨has_del_same, fun j hj => by cases hj⟩
  · simp only [if_neg e]
    rw [has_del_other (keyL_ne e), atKey_del_other (keyL_ne e)]
    exact hat y
end
end Go.Proofs.YtelbddgdaibolaaDoor
/-
  Has a key come twice? By the program, with a map.
-/
namespace Go.Proofs.YtelbddgdaibolaaDoor
open Go.ChangeShapes Go.WideShapes Go.ChangeAt Go.RowKit Go.Maps
open Go.WideMaps (keyOf_string_mk)
/-- Block B is a map that has just the keys K. -/
def KeyMap (w : World) (B : Nat) (K : List ByteArray) : Prop :=
  ∃ D : DataW Unit, w.ownsMap Tryd.prog 9 (plainElem Tryd.prog 3) B K.length D ∧ (∀ x : ByteArray, Maps.has D (keyL x) = true ↔ x ∈ K) ∧ (K.Nodup → Maps.size D = K.length) ∧ (¬ K.Nodup → Maps.size D < K.length)
theorem KeyMap.lt {w : World} {B : Nat} {K : List ByteArray} (h : KeyMap w B K) : B < w.heap.size := by
  obtain ⟨D, h, _⟩ := h
  exact h.lt
theorem KeyMap.below {w w' : World} {B : Nat} {K : List ByteArray} (h : KeyMap w B K) (hb : Below w.heap.size w w') : KeyMap w' B K := by
  have hl := h.lt
  obtain ⟨D, ⟨es, clock, hh, r⟩, h2⟩ := h
  exact ⟨D, ⟨es, clock, by rw [hb.block B hl]; exact hh, r⟩, h2⟩
theorem KeyMap.made (w : World) : KeyMap (w.alloc (.map #[] 0)) w.heap.size [] :=
  ⟨.map [], World.ownsMap_made w _ _ _, fun x => by simp [Maps.has], fun _ => rfl, fun h => absurd List.nodup_nil h⟩
section
variable {ops : Array Oper} {rest : List Oper} {o : Oper} {a : Act} {Q : Exit → Act → World → Prop}
theorem wpList_putK (w : World) (hg : o.guard = none) (m x v : Operand) (hop : o.op = Op.mapUpdate 110 m x v) (B : Nat) (K : List ByteArray)
    (hm : a.eval m = .map (some B)) (hown : KeyMap w B K) (hn : K.length ≤ 1048576) (key : ByteArray) (hx : a.eval x = .string key) (hk : key.size ≤ maxLen) (i : Nat) (hi : i ≤ 1048576) (hv : a.eval v = .int .i64 (i : Int)) (base : Nat) (hbase : base ≤ B)
    (hK : ∀ w', KeyMap w' B (K ++ [key]) → Below base w w' → wpList Tryd.prog ops Q rest (a.put o.dst undef) w') : wpList Tryd.prog ops Q (o :: rest) a w := by
  obtain ⟨D, hD, hat, hs1, hs2⟩ := hown
  refine wpList_mapUpdate_in w hg m x v 110 hop 9 3 hkeyed Tryd.underlying110 _ B K.length D hm hD (by unfold maxLen; omega) _ _ (keyL key) hx hv (keyOf_string_mk Tryd.underlying9 hk) (.lit (.int .i64 (i : Int))) [] (plainElem_int Tryd.underlying3 (WalkArith.wf_i64 (by omega))) ?_
  intro w' hD' ht
  have hsz := size_put (k := keyL key) (hD.tidy hkeyed) (.lit (.int .i64 (i : Int)))
  have hle := hD.size_le
  have hlen : (K ++ [key]).length = K.length + 1 := by simp
  refine hK w' ⟨_, by rw [hlen]; exact hD', fun y => ?_, fun hnd => ?_, fun hnd => ?_⟩ (turned_below ht hbase)
  · rcases Classical.em (y = key) with e | e
    · subst e
      rw [has_put_same (k := keyL y) hD.isMap (isKeyL y) _]
      simp
    · rw [has_put_other (keyL_ne e), hat y]
      simp [e]
  · have h2 := List.nodup_append.1 hnd
    have hnot : ¬ key ∈ K := fun hmem => h2.2.2 key hmem key (by simp) rfl
    have hf : Maps.has D (keyL key) = false := by
      cases c : Maps.has D (keyL key)
      · rfl
      · exact absurd ((hat key).1 c) hnot
    rw [hsz, hf, hs1 h2.1, hlen]
    rfl
  · rw [hsz, hlen]
    rcases Classical.em (key ∈ K) with hmem | hmem
    · rw [(hat key).2 hmem]
      simp only [if_true]
      omega
    · have hf : Maps.has D (keyL key) = false := by
        cases c : Maps.has D (keyL key)
        · rfl
        · exact absurd ((hat key).1 c) hmem
      rw [hf]
      have hn2 : ¬ K.Nodup := fun hnk => hnd (List.nodup_append.2 ⟨hnk, by simp, fun a ha b hb => by simp only [List.mem_singleton] at hb; subst hb; exact fun e => hmem (e ▸ ha)⟩)
      have := hs2 hn2
      simp only [Bool.false_eq_true, if_false]
      omega
end
theorem keys_nodup (l : List Ent) : (l.map Ent.key).Nodup ↔ (keysE l).Nodup := by
  have e : keysE l = (l.map Ent.key).map ByteArray.toList := by simp [keysE]
  rw [e]
  have inj : ∀ a b : ByteArray, a.toList = b.toList → a = b := fun a b h => by
    rw [ByteArray.toList_eq, ByteArray.toList_eq] at h
    exact ByteArray.ext (Array.ext' h)
  constructor
  · intro h
    exact List.Pairwise.map _ (fun a b hab hc => hab (inj a b hc)) h
  · intro h
    exact List.Pairwise.of_map _ (fun a b hab hc => hab (by rw [hc])) h
set_option maxRecDepth 100000 in
set_option maxHeartbeats 8000000 in
theorem keyTwice_any (w : World) (v : Value) (base : Nat) (l : List Hdl) (ho : OwnP w base v l) (hl : l.length ≤ 1000000) (hth : ∀ h ∈ l, HThere w h) (hz : ∀ h ∈ l, h.x.key.size ≤ maxLen) :
    Calls Tryd.prog 53 #[v] w fun e w' => e = .returned (.bool (dupE (l.map Hdl.x))) ∧ Below w.heap.size w w' := by
  obtain ⟨va, vc, rfl, _, hf⟩ := ho.form
  have HC : Hid (∀ X, Below w.heap.size w X → ∀ (k : Nat) h, l[k]? = some h → ∃ g, va = some ⟨g, 0, none⟩ ∧ X.cell? ⟨g, k, none⟩ = some (.pointer (some ⟨h.b, h.o, none⟩)) ∧ X.cell? ⟨h.b, h.o, none⟩ = some (.string h.x.key) ∧ h.x.key.size ≤ maxLen) := fun X hX k h hk => by
    rcases hf with rfl | ⟨g, e, _, hg, hc⟩
    · simp at hk
    · have t := ((hth h (List.mem_of_getElem? hk)).keep hX).cells.1
      exact ⟨g, e, by rw [hX.cell (p := ⟨g, k, none⟩) hg]; exact hc k h hk, t, hz h (List.mem_of_getElem? hk)⟩
  clear hf ho hth hz
  obtain ⟨S, hS⟩ : ∃ S, Hid (dupE (l.map Hdl.x) = S) := ⟨_, rfl⟩
  rw [hS.out]
  generalize hn : l.length = n at *
  have HN : Hid (l.length = n) := hn
  clear hn
  have B0 : Hid (Below w.heap.size w (w.alloc (.map #[] 0))) := (Below.refl _ _).alloc (Nat.le_refl _) _
  have M0 : Hid (KeyMap (w.alloc (.map #[] 0)) w.heap.size []) := KeyMap.made w
  have hmm := @run_makeMap Tryd.prog
  go_enter Tryd.func53, Tryd.ntmps53
  go_wp2_with fail
  go_loopw [9] (fun i wr => ∃ k : Nat, k ≤ n ∧ i = .int .i64 k ∧ KeyMap wr w.heap.size ((l.map (fun h => h.x.key)).take k) ∧ Below w.heap.size w wr) (fun i _ => n - (intOf i).toNat)
  case atStart => exact ⟨0, Nat.zero_le _, rfl, M0.out, B0.out⟩
  case round =>
    obtain ⟨k, hk, rfl, hm, hb⟩ := hrel
    have HM : Hid (KeyMap wr w.heap.size ((l.map (fun h => h.x.key)).take k)) := hm
    clear hm M0 B0
    have HB : Hid (Below w.heap.size w wr) := hb
    by_cases hlt : k < n
    · obtain ⟨q, hr⟩ : ∃ r, l[k]? = some r := ⟨l[k]'(by have := HN.out; omega), List.getElem?_eq_getElem _⟩
      obtain ⟨g', rfl, hc, hc2, hks⟩ := HC.out _ hb k q hr
      have HK2 : Hid ((l.map (fun h => h.x.key)).take k ++ [q.x.key] = (l.map (fun h => h.x.key)).take (k + 1)) := by
        show _ = _
        obtain ⟨hk2, hr2⟩ := List.getElem?_eq_some_iff.1 hr
        rw [List.take_succ_eq_append_getElem (by simpa using hk2)]
        simp [hr2]
      have HLN : Hid (((l.map (fun h => h.x.key)).take k).length ≤ 1048576) := by
        show _ ≤ _
        rw [List.length_take, List.length_map, HN.out]
        omega
      have g : (k : Int) < n := by omega
      have g0 : (0 : Int) ≤ k := by omega
      clear hr hb HC
      generalize q.x.key = qk at *
      go_wp2_with (at_mapUpdate; refine wpList_putK _ rfl (.tmp 14) (.tmp 18) (.tmp 19) rfl w.heap.size _ rfl HM.out HLN.out qk rfl hks k (by omega) rfl w.heap.size (Nat.le_refl _) ?_; intro w' hm' hb')
      rw [HK2.out] at hm'
      go_wp2_with fail
      go_roundw
      case rel => exact ⟨k + 1, by omega, by go_num, hm', HB.out.trans hb'⟩
      case measure => simp [intOf]; omega
    · have hkn : k = n := by omega
      subst hkn
      obtain ⟨D, hD, _, hs1, hs2⟩ := HM.out
      have e : (l.map (fun h => h.x.key)).take k = (l.map Hdl.x).map Ent.key := by
        rw [List.take_of_length_le (by have := HN.out; simp; omega)]
        simp
      rw [e] at hs1 hs2
      have hlen : ((l.map Hdl.x).map Ent.key).length = k := by have := HN.out; simp; exact this
      have HE : Hid (decide (Maps.size D < k) = S) := by
        show _ = _
        rw [← hS.out]
        unfold dupE
        by_cases hd : (keysE (l.map Hdl.x)).Nodup
        · have := hs1 ((keys_nodup _).2 hd)
          rw [decide_eq_true hd]
          simp
          omega
        · have := hs2 (fun h => hd ((keys_nodup _).1 h))
          rw [decide_eq_false hd]
          simp
          omega
      have HD : Hid (wr.ownsMap Tryd.prog 9 (plainElem Tryd.prog 3) w.heap.size ((l.map (fun h => h.x.key)).take k).length D) := hD
      clear hD hs1 hs2 e HM hb
      go_wp2_with (at_len; refine wpList_len_own _ rfl (.tmp 21) 110 rfl 9 3 Tryd.underlying110 _ w.heap.size _ D rfl HD.out ?_)
      go_ret
      exact ⟨ret_bool HE.out, HB.out⟩
end Go.Proofs.YtelbddgdaibolaaDoor
/-
  Entries that a call itself grows: cells, appending.
-/
namespace Go.Proofs.YtelbddgdaibolaaDoor
open Go.ChangeShapes Go.WideShapes Go.ChangeAt Go.RowKit Go.Sort
def entsW (l : List (Ent × EntR)) : List Value := l.flatMap (fun q => entW q.1 q.2)
theorem entsW_cons (q : Ent × EntR) (l : List (Ent × EntR)) : entsW (q :: l) = entW q.1 q.2 ++ entsW l := by simp [entsW]
theorem entsW_app (l m : List (Ent × EntR)) : entsW (l ++ m) = entsW l ++ entsW m := by simp [entsW]
theorem entW_len (x : Ent) (r : EntR) : (entW x r).length = 13 := rfl
theorem entsW_len (l : List (Ent × EntR)) : (entsW l).length = l.length * 13 := by
  induction l with
  | nil => rfl
  | cons r l ih => rw [entsW_cons, List.length_append, entW_len, ih, List.length_cons]; omega
theorem entsW_at (l : List (Ent × EntR)) : ∀ (i : Nat) q, l[i]? = some q → ∀ j, j < 13 → (entsW l)[i * 13 + j]? = (entW q.1 q.2)[j]? := by
  induction l with
  | nil => intro i r hr; simp at hr
  | cons x l ih =>
    intro i q hr j hj
    rw [entsW_cons]
    cases i with
    | zero =>
      simp at hr; subst hr
      rw [Nat.zero_mul, Nat.zero_add, List.getElem?_append_left (by rw [entW_len]; exact hj)]
    | succ i =>
      have := ih i q (by simpa using hr) j hj
      rw [List.getElem?_append_right (by rw [entW_len]; omega), entW_len, show (i + 1) * 13 + j - 13 = i * 13 + j from by omega]
      exact this
theorem entsW_cells {w : World} {b off : Nat} {l : List (Ent × EntR)} (h : EntsAt w b off l) : ∀ j u, (entsW l)[j]? = some u → w.cell? ((⟨b, off, none⟩ : Addr).add j) = some u := by
  intro j u hj
  have hadd : (⟨b, off, none⟩ : Addr).add j = ⟨b, off + j, none⟩ := by unfold Addr.add; split <;> simp_all
  rw [hadd]
  have hlt : j < (entsW l).length := (List.getElem?_eq_some_iff.1 hj).1
  rw [entsW_len] at hlt
  have hm : j / 13 * 13 + j % 13 = j := by omega
  obtain ⟨q, hr⟩ : ∃ r, l[j / 13]? = some r := ⟨l[j / 13]'(by omega), List.getElem?_eq_getElem _⟩
  have e := entsW_at l (j / 13) q hr (j % 13) (by omega)
  have c := (h (j / 13) q hr).1 (j % 13) (by omega)
  rw [hm] at e
  rw [Nat.add_assoc, hm] at c
  rw [c, ← e, hj]
theorem entsW_one (l : List (Ent × EntR)) : ∀ u ∈ entsW l, u.oneCell' = true := by
  intro u hu
  simp only [entsW, List.mem_flatMap] at hu
  obtain ⟨r, _, hr⟩ := hu
  simp only [entW, List.mem_cons, List.not_mem_nil, or_false] at hr
  rcases hr with rfl | rfl | rfl | rfl | rfl | rfl | rfl | rfl | rfl | rfl | rfl | rfl | rfl <;> rfl
/-- v, nil or not, holds the entries l in a row of the call's own, from block base on. -/
def OwnE (w : World) (base : Nat) (v : Value) (l : List (Ent × EntR)) : Prop := w.ownsRow base 34 13 v l.length (entsW l)
theorem OwnE.nil (w : World) (base : Nat) : OwnE w base (.slice none 0 0) [] := World.ownsRow_nil _ _ _ _
theorem OwnE.made0 (w : World) (base : Nat) (hb : base ≤ w.heap.size) : OwnE (w.alloc (.cells #[] 34)) base (.slice (some ⟨w.heap.size, 0, none⟩) 0 0) [] := World.ownsRow_made w #[] 0 hb (by unfold maxLen; omega) rfl
theorem OwnE.below {w w' : World} {base : Nat} {v : Value} {l : List (Ent × EntR)} (h : OwnE w base v l) (hb : Below w.heap.size w w') : OwnE w' base v l := by
  obtain ⟨h1, h2⟩ := h
  refine ⟨h1, ?_⟩
  rcases h2 with h2 | ⟨g, c, cur, e, hg, hh, hrest⟩
  · exact .inl h2
  · exact .inr ⟨g, c, cur, e, hg, by rw [hb.block g (Array.getElem?_eq_some_iff.1 hh).1]; exact hh, hrest⟩
theorem OwnE.lower {w : World} {b0 base : Nat} {v : Value} {l : List (Ent × EntR)} (h : OwnE w base v l) (hb : b0 ≤ base) : OwnE w b0 v l := by
  obtain ⟨h1, h2⟩ := h
  refine ⟨h1, ?_⟩
  rcases h2 with h2 | ⟨g, c, cur, e, hg, hrest⟩
  · exact .inl h2
  · exact .inr ⟨g, c, cur, e, by omega, hrest⟩
theorem OwnE.at {w : World} {base : Nat} {v : Value} {l : List (Ent × EntR)} (h : OwnE w base v l) (hin : ∀ q ∈ l, EntIn w q.1 q.2) : ∃ a c, v = .slice a l.length c ∧ l.length ≤ c ∧ EntsIn w a l := by
  have h0 := h
  obtain ⟨_, h1 | ⟨g, c, cur, rfl, _, _, hc, _⟩⟩ := h
  · have e : l = [] := List.eq_nil_of_length_eq_zero h1.2
    exact ⟨none, 0, by rw [h1.1, e]; rfl, by rw [e]; exact Nat.le_refl _, .inl e⟩
  · refine ⟨_, c, rfl, hc, .inr ⟨g, 0, rfl, fun i q hr => ⟨fun j hj => ?_, hin q (List.mem_of_getElem? hr)⟩⟩⟩
    have hi := (List.getElem?_eq_some_iff.1 hr).1
    have c1 := World.ownsRow.cellAt h0 (i * 13 + j) (by omega)
    rw [Nat.zero_add, c1, entsW_at l i q hr j hj]
theorem own_geE {w : World} {base : Nat} {v : Value} {l : List (Ent × EntR)} (h : OwnE w base v l) (q : Nat) (hq : v.ownBlock = some q) : base ≤ q := by
  obtain ⟨_, h | ⟨g, c, cur, rfl, hg, _⟩⟩ := h
  · rw [h.1] at hq; cases hq
  · simp only [Value.ownBlock, Option.some.injEq] at hq; omega
theorem append_zeroE {P : Program} (w : World) (t ty e : TypeId) (i : TypeInfo) (ht : P.underlying t = some (.slice e)) (hi : P.info? e = some i) (base : Option Addr) (n k : Nat) (hle : n ≤ k) (pb : Option Addr) (c : Nat) :
    (Builtin.append_ #[t, t] ty #[.slice base n k, .slice pb 0 c]).run P w = .ok (.slice base n k) w := by
  cases base <;> cases pb <;> simp [Builtin.append_, run_underlying ht, sizeOf, typeInfo, hi, Builtin.lenOf, Builtin.firstCells, hle, storeCells, loadCells, loadCellsFrom]
theorem OwnE.form {w : World} {base : Nat} {v : Value} {l : List (Ent × EntR)} (h : OwnE w base v l) : ∃ va vc, v = .slice va l.length vc ∧ l.length ≤ vc := by
  obtain ⟨_, h1 | ⟨g, c2, cur, e2, _, _, hc2, _⟩⟩ := h
  · have e : l = [] := List.eq_nil_of_length_eq_zero h1.2
    subst e
    exact ⟨none, 0, h1.1, Nat.le_refl _⟩
  · exact ⟨_, c2, e2, hc2⟩
theorem wp_append_entsIn {o : Oper} {a : Act} {K : Act → World → Prop} {Q : Exit → Act → World → Prop} (w : World) (s x : Operand)
    (ho : o.op = .call { callee := .builtin .append, args := #[s, x], argTypes := #[47, 47] })
    (base : Nat) (v : Value) (l0 : List (Ent × EntR)) (pa : Option Addr) (cap m : Nat) (l : List (Ent × EntR)) (hm : l.length = m)
    (hs : a.eval s = v) (hown : OwnE w base v l0) (hx : a.eval x = .slice pa m cap) (hat : EntsIn w pa l) (hl : l0.length + m ≤ 1000000) (hbase : base ≤ w.heap.size)
    (h : ∀ v' w', OwnE w' base v' (l0 ++ l) → Below base w w' → K (a.put o.dst v') w') :
    Oper.wp Tryd.prog o a w K Q := by
  obtain ⟨i0, hi, hz0, hz1, hz2⟩ := info_parts infoEntry
  rcases hat with rfl | ⟨b, off, rfl, hat⟩
  · obtain ⟨va, vc, rfl, hle⟩ := hown.form
    simp only [List.length_nil] at hm
    subst hm
    unfold Oper.wp execOp
    simp only [ho, resolve, invoke, builtin, Sem.run_bind, Sem.run_pure, Result.andThen_ok, List.map_toArray, List.map_cons, List.map_nil, hs, hx]
    rw [append_zeroE w 47 _ 34 i0 Tryd.underlying47 hi va l0.length vc hle pa cap]
    exact h _ w (by simpa using hown) (Below.refl _ _)
  · by_cases h0 : 0 < m
    · refine wp_append_lies w s x 47 ho base 34 i0 _ 13 152 Tryd.underlying47 hi hz0 hz1 hz2 rfl (by omega) v l0.length (entsW l0) hs hown ⟨b, off, none⟩ m cap (entsW l) hx (by rw [entsW_len, hm]) (entsW_cells hat) (entsW_one l) h0 (by unfold maxLen; omega) (by omega) hbase _ rfl ?_
      intro g c w' h1 h2 h3 h4
      refine h _ w' ?_ ((Below.refl base w).grown h2 hbase (fun q hq => own_geE hown q hq))
      unfold OwnE
      rw [entsW_app, List.length_append, hm]
      exact h1
    · have : m = 0 := by omega
      subst this
      have : l = [] := List.eq_nil_of_length_eq_zero hm
      subst this
      obtain ⟨va, vc, rfl, hle⟩ := hown.form
      unfold Oper.wp execOp
      simp only [ho, resolve, invoke, builtin, Sem.run_bind, Sem.run_pure, Result.andThen_ok, List.map_toArray, List.map_cons, List.map_nil, hs, hx]
      rw [append_zeroE w 47 _ 34 i0 Tryd.underlying47 hi va l0.length vc hle _ cap]
      exact h _ w (by simpa using hown) (Below.refl _ _)
theorem step_append_entsIn {ops : Array Oper} {o : Oper} {a : Act} {K : Act → World → Prop} {Q : Exit → Act → World → Prop} {E : Prop} (w : World) (hgd : o.guard = none) (s x : Operand)
    (ho : o.op = .call { callee := .builtin .append, args := #[s, x], argTypes := #[47, 47] })
    (base : Nat) (v : Value) (l0 : List (Ent × EntR)) (pa : Option Addr) (cap m : Nat) (l : List (Ent × EntR)) (hm : l.length = m)
    (hs : a.eval s = v) (hown : OwnE w base v l0) (hx : a.eval x = .slice pa m cap) (hat : EntsIn w pa l) (hl : l0.length + m ≤ 1000000) (hbase : base ≤ w.heap.size)
    (h : ∀ v' w', OwnE w' base v' (l0 ++ l) → Below base w w' → K (a.put o.dst v') w') :
    if Region.wanted o (yielded ops a.tmps) = true then Oper.wp Tryd.prog o a w K Q else E := by
  have hw : Region.wanted o (yielded ops a.tmps) = true := by simp [Region.wanted, hgd]
  rw [if_pos hw]
  exact wp_append_entsIn w s x ho base v l0 pa cap m l hm hs hown hx hat hl hbase h
theorem wpList_append_entsIn {ops : Array Oper} {rest : List Oper} {o : Oper} {a : Act} {Q : Exit → Act → World → Prop} (w : World) (hgd : o.guard = none) (s x : Operand)
    (ho : o.op = .call { callee := .builtin .append, args := #[s, x], argTypes := #[47, 47] })
    (base : Nat) (v : Value) (l0 : List (Ent × EntR)) (pa : Option Addr) (cap m : Nat) (l : List (Ent × EntR)) (hm : l.length = m)
    (hs : a.eval s = v) (hown : OwnE w base v l0) (hx : a.eval x = .slice pa m cap) (hat : EntsIn w pa l) (hl : l0.length + m ≤ 1000000) (hbase : base ≤ w.heap.size)
    (h : ∀ v' w', OwnE w' base v' (l0 ++ l) → Below base w w' → wpList Tryd.prog ops Q rest (a.put o.dst v') w') :
    wpList Tryd.prog ops Q (o :: rest) a w :=
  wpList_plain hgd fun _ hK => wp_append_entsIn w s x ho base v l0 pa cap m l hm hs hown hx hat hl hbase fun v' w' h1 h2 => hK _ _ (h v' w' h1 h2)
end Go.Proofs.YtelbddgdaibolaaDoor
/-
  All entries of a store, by the model.
-/
namespace Go.Proofs.YtelbddgdaibolaaDoor
open Go.ChangeShapes Go.WideShapes Go.ChangeAt Go.RowKit Go.Sort
set_option maxRecDepth 100000 in
set_option maxHeartbeats 8000000 in
theorem l8All_any (w : World) (S o : Nat) (ta ka : Option Addr) (tc kc : Nat) (tl kl : List (Ent × EntR)) (c2 : w.cell? ⟨S, o + 2, none⟩ = some (.slice ta tl.length tc)) (c3 : w.cell? ⟨S, o + 3, none⟩ = some (.slice ka kl.length kc)) (hl : tl.length + kl.length ≤ 1000000) (ht : EntsIn w ta tl) (hk : EntsIn w ka kl) :
    Calls Tryd.prog 48 #[.pointer (some ⟨S, o, none⟩)] w fun e w' => (∃ v, e = .returned v ∧ OwnE w' w.heap.size v (tl ++ kl)) ∧ Below w.heap.size w w' := by
  have hlt : S < w.heap.size := block_lt_of_cell c2
  have HKS : Hid (∀ X, Below w.heap.size w X → X.cell? ⟨S, o + 2, none⟩ = some (.slice ta tl.length tc) ∧ X.cell? ⟨S, o + 3, none⟩ = some (.slice ka kl.length kc)) := fun X hX => ⟨by rw [hX.cell (p := ⟨S, o + 2, none⟩) hlt]; exact c2, by rw [hX.cell (p := ⟨S, o + 3, none⟩) hlt]; exact c3⟩
  have HI : Hid (∀ X, Below w.heap.size w X → EntsIn X ta tl ∧ EntsIn X ka kl) := fun X hX => ⟨ht.keep hX, hk.keep hX⟩
  have B0 : Hid (Below w.heap.size w w.drew) := (Below.refl _ _).drew
  have B1 : Hid (Below w.heap.size w (w.drew.alloc (.cells #[] 34))) := ((Below.refl _ _).drew).alloc (Nat.le_refl _) _
  have O1 : Hid (OwnE (w.drew.alloc (.cells #[] 34)) w.heap.size (.slice (some ⟨w.heap.size, 0, none⟩) 0 0) []) := OwnE.made0 w.drew w.heap.size (Nat.le_refl _)
  clear c2 c3 ht hk
  obtain ⟨tn, htn⟩ : ∃ n, Hid (tl.length = n) := ⟨_, rfl⟩
  obtain ⟨kn, hkn⟩ : ∃ n, Hid (kl.length = n) := ⟨_, rfl⟩
  rw [htn.out, hkn.out] at HKS hl
  go_enter Tryd.func48, Tryd.ntmps48
  go_wp2_with fail
  go_region_held3 (fun X => X.cell? ⟨S, o + 2, none⟩ = some (.slice ta tn tc) ∧ X.cell? ⟨S, o + 3, none⟩ = some (.slice ka kn kc))
    (first | exact HKS.out _ BB.out | exact HKS.out _ BA.out | exact HKS.out _ B1.out | exact HKS.out _ B0.out)
    (first
    | (refine step_append_entsIn _ (by rfl) _ _ (by rfl) w.heap.size _ tl ka kc kn kl hkn.out (by rfl) OA.out (by rfl) (HI.out _ BA.out).2 (by rw [htn.out]; exact hl) BA.out.size ?_; intro v2 w2 ho2 hb2; have BB : Hid (Below w.heap.size w w2) := BA.out.trans hb2; have OB : Hid (OwnE w2 w.heap.size v2 (tl ++ kl)) := ho2; clear ho2 hb2)
    | (refine step_append_entsIn _ (by rfl) _ _ (by rfl) w.heap.size _ [] ta tc tn tl htn.out (by rfl) O1.out (by rfl) (HI.out _ B1.out).1 (by simp; omega) B1.out.size ?_; intro v1 w1 ho1 hb1; have BA : Hid (Below w.heap.size w w1) := B1.out.trans hb1; have OA : Hid (OwnE w1 w.heap.size v1 tl) := ho1; clear ho1 hb1))
  all_goals
    go_wp2_with fail
    go_ret
    exact ⟨⟨_, rfl, OB.out⟩, BB.out⟩
end Go.Proofs.YtelbddgdaibolaaDoor
/-
  Is it a store? The specification's answer.
-/
namespace Go.Proofs.YtelbddgdaibolaaDoor
open Go.ChangeShapes Go.WideShapes Go.ChangeAt Go.RowKit Go.Sort
/-- An entry that fits, its key too. -/
structure EntOk (x : Ent) : Prop where
  key : x.key.size ≤ maxLen
  h : x.hs.length ≤ 1048576
  b : x.bl.length ≤ maxLen
  t : x.ts.length ≤ maxLen
theorem specEntry_q (w : World) (q : Ent × EntR) (ho : EntOk q.1) (hi : EntIn w q.1 q.2) :
    Calls Tryd.prog 9 #[.agg #[.string q.1.key, .int .i64 q.1.st, .slice q.2.ha q.1.hs.length q.2.hc, .slice q.2.ba q.1.bl.length q.2.bc, .int .i64 q.1.t, .int .i64 q.1.g, .int .i64 q.1.l, .int .i64 q.1.s, .int .i64 q.1.e, .bool q.1.b1, .bool q.1.b2, .slice q.2.ta q.1.ts.length q.2.tc, .int .i64 q.1.pins]] w fun r w' => r = .returned (.int .i64 (entC q.1)) ∧ Below w.heap.size w w' :=
  specEntry_any w _ _ _ _ _ _ _ _ _ _ _ _ _ _ _ _ _ _ _ ho.key ho.h ho.b ho.t hi.h
theorem faultE_drop {l : List (Ent × EntR)} {k : Nat} {q : Ent × EntR} (h : l[k]? = some q) : faultE ((l.map Prod.fst).drop k) = if entC q.1 ≠ 0 then entC q.1 else faultE ((l.map Prod.fst).drop (k + 1)) := by
  obtain ⟨hk, rfl⟩ := List.getElem?_eq_some_iff.1 h
  rw [List.drop_eq_getElem_cons (i := k) (by simpa using hk), faultE]
  simp
theorem keys_at {l : List (Ent × EntR)} {k : Nat} {q : Ent × EntR} (h : l[k]? = some q) : (keysE (l.map Prod.fst))[k]? = some q.1.key.toList := by
  unfold keysE
  rw [List.getElem?_map, List.getElem?_map, h]
  rfl
theorem nodup_succ {K : List (List UInt8)} {k : Nat} {x : List UInt8} (h : (K.take k).Nodup) (hk : K[k]? = some x) (hn : ∀ (j : Nat) y, j < k → K[j]? = some y → ¬ x = y) : (K.take (k + 1)).Nodup := by
  obtain ⟨hlt, rfl⟩ := List.getElem?_eq_some_iff.1 hk
  rw [List.take_succ_eq_append_getElem hlt]
  refine List.nodup_append.2 ⟨h, by simp, ?_⟩
  intro a ha b hb
  simp only [List.mem_singleton] at hb
  subst hb
  obtain ⟨j, hj⟩ := List.mem_iff_getElem?.1 ha
  have hjk : j < k := by
    have := (List.getElem?_eq_some_iff.1 hj).1
    simp at this; omega
  rw [List.getElem?_take_of_lt hjk] at hj
  exact fun e => hn j a hjk hj e.symm
theorem dup_of {l : List (Ent × EntR)} {j k : Nat} {p q : Ent × EntR} (hjk : j < k) (hj : l[j]? = some p) (hk : l[k]? = some q) (e : q.1.key.toList = p.1.key.toList) : dupE (l.map Prod.fst) = true := by
  unfold dupE
  rw [Bool.not_eq_true', decide_eq_false_iff_not]
  intro hn
  have a := keys_at hj
  have b := keys_at hk
  rw [e] at b
  obtain ⟨h1, e1⟩ := List.getElem?_eq_some_iff.1 a
  obtain ⟨h2, e2⟩ := List.getElem?_eq_some_iff.1 b
  have := List.pairwise_iff_getElem.1 hn j k h1 h2 hjk
  rw [e1, e2] at this
  exact this rfl
set_option maxRecDepth 100000 in
set_option maxHeartbeats 16000000 in
theorem specSto_any (w : World) (bu gu : Int) (ta ka : Option Addr) (tc kc : Nat) (tl kl : List (Ent × EntR)) (hl : tl.length ≤ 1048576) (hk : kl.length ≤ 1048576) (hto : ∀ q ∈ tl ++ kl, EntOk q.1) (ht : EntsIn w ta tl) (hq : EntsIn w ka kl) :
    Calls Tryd.prog 17 #[.agg #[.int .i64 bu, .int .i64 gu, .slice ta tl.length tc, .slice ka kl.length kc]] w fun r w' => r = .returned (.int .i64 (storeC bu gu (tl.map Prod.fst) (kl.map Prod.fst))) ∧ Below w.heap.size w w' := by
  obtain ⟨W, hW⟩ : ∃ W, W = w.alloc (.cells #[.int .i64 bu, .int .i64 gu, .slice ta tl.length tc, .slice ka kl.length kc] 49) := ⟨_, rfl⟩
  have HW : Hid (W = w.alloc (.cells #[.int .i64 bu, .int .i64 gu, .slice ta tl.length tc, .slice ka kl.length kc] 49)) := hW
  have K0 : Hid (Below w.heap.size w W ∧ S4 W w.heap.size (.int .i64 bu) (.int .i64 gu) (.slice ta tl.length tc) (.slice ka kl.length kc)) := by
    rw [hW]; exact ⟨(Below.refl _ _).alloc (Nat.le_refl _) _, S4.new w _ _ _ _ _⟩
  have HI1 : Hid (∀ w, Calls Tryd.prog 31 #[.int .i64 bu, .int .i64 0, .int .i64 1000000] w fun r w' => r = .returned (.bool (decide (0 ≤ bu) && decide (bu ≤ 1000000))) ∧ w' = w) := l1In_all bu 0 1000000
  have HI2 : Hid (∀ w, Calls Tryd.prog 31 #[.int .i64 gu, .int .i64 0, .int .i64 bu] w fun r w' => r = .returned (.bool (decide (0 ≤ gu) && decide (gu ≤ bu))) ∧ w' = w) := l1In_all gu 0 bu
  obtain ⟨Z, hZ⟩ : ∃ Z, storeC bu gu (tl.map Prod.fst) (kl.map Prod.fst) = Z := ⟨_, rfl⟩
  rw [hZ]
  unfold storeC at hZ
  rw [← List.map_append, List.length_map, List.length_map] at hZ
  have HZ : Hid (_ = Z) := hZ
  have HALL : Hid (tl.length + kl.length ≤ 40 → Calls Tryd.prog 48 #[.pointer (some ⟨w.heap.size, 0, none⟩)] W fun e w' => (∃ v, e = .returned v ∧ OwnE w' W.heap.size v (tl ++ kl)) ∧ Below W.heap.size W w') := fun h40 => l8All_any W w.heap.size 0 ta ka tc kc tl kl K0.out.2.c2 K0.out.2.c3 (by omega) (ht.keep K0.out.1) (hq.keep K0.out.1)
  have HIN : Hid (∀ X, Below w.heap.size w X → (∀ q ∈ tl ++ kl, EntIn X q.1 q.2) ∧ EntsIn X ka kl) := fun X hX => by
    refine ⟨fun q hq' => ?_, hq.keep hX⟩
    rcases List.mem_append.1 hq' with h | h
    · rcases ht.keep hX with e | ⟨b, off, _, hat⟩
      · subst e; simp at h
      · obtain ⟨i, hi⟩ := List.mem_iff_getElem?.1 h; exact hat.in hi
    · rcases hq.keep hX with e | ⟨b, off, _, hat⟩
      · subst e; simp at h
      · obtain ⟨i, hi⟩ := List.mem_iff_getElem?.1 h; exact hat.in hi
  have HOK : Hid (∀ q ∈ tl ++ kl, EntOk q.1) := hto
  clear hZ hW ht hq hto
  have hlen : (tl ++ kl).length = tl.length + kl.length := by simp
  have HKL : Hid (∀ q ∈ kl, q ∈ tl ++ kl) := fun q hq => List.mem_append_right _ hq
  obtain ⟨al, hal⟩ : ∃ al, Hid (tl ++ kl = al) := ⟨_, rfl⟩
  rw [hal.out] at HALL HIN HOK HKL hlen
  rw [hal.out] at HZ
  clear hal
  obtain ⟨tn, htn⟩ : ∃ n, Hid (tl.length = n) := ⟨_, rfl⟩
  obtain ⟨kn, hkn⟩ : ∃ n, Hid (kl.length = n) := ⟨_, rfl⟩
  rw [htn.out, hkn.out] at K0 HZ HALL HW hlen
  rw [htn.out] at hl
  rw [hkn.out] at hk
  rw [htn.out, hkn.out]
  have HLN : Hid (al.length = tn + kn) := hlen
  clear hlen htn
  by_cases c1 : bu < 0 ∨ 1000000 < bu
  · have HR : Hid (3 = Z) := by have := HZ.out; rw [if_pos (by omega)] at this; exact this
    have e1 : (decide (0 ≤ bu) && decide (bu ≤ 1000000)) = false := by simp; omega
    rw [e1] at HI1
    clear HZ HALL HIN HOK
    go_enter Tryd.func17, Tryd.ntmps17
    go_wp2_with fail
    refine (HI1.out _).mono ?_
    rintro r w1 ⟨rfl, rfl⟩
    go_wp2_with fail
    go_ret
    exact ⟨ret_int HR.out, HW.out ▸ K0.out.1⟩
  have e1 : (decide (0 ≤ bu) && decide (bu ≤ 1000000)) = true := by simp; omega
  rw [e1] at HI1
  clear e1
  by_cases c2 : gu < 0 ∨ bu < gu
  · have HR : Hid (3 = Z) := by have := HZ.out; rw [if_pos (by omega)] at this; exact this
    have e1 : (decide (0 ≤ gu) && decide (gu ≤ bu)) = false := by simp; omega
    rw [e1] at HI2
    clear HZ HALL HIN HOK
    go_enter Tryd.func17, Tryd.ntmps17
    go_wp2_with fail
    refine (HI1.out _).mono ?_
    rintro r w1 ⟨rfl, rfl⟩
    go_wp2_with fail
    refine (HI2.out _).mono ?_
    rintro r w1 ⟨rfl, rfl⟩
    go_wp2_with fail
    go_ret
    exact ⟨ret_int HR.out, HW.out ▸ K0.out.1⟩
  have e1 : (decide (0 ≤ gu) && decide (gu ≤ bu)) = true := by simp; omega
  rw [e1] at HI2
  clear e1
  rw [if_neg (by omega)] at HZ
  have ew : IntKind.i64.wrap ((tn : Int) + (kn : Int)) = (tn : Int) + (kn : Int) := by
    unfold IntKind.wrap; simp [IntKind.signed, IntKind.bits]; omega
  by_cases c3 : 40 < tn + kn
  · have HR : Hid (2 = Z) := by have := HZ.out; rw [if_pos c3] at this; exact this
    have g3 : (40 : Int) < (tn : Int) + (kn : Int) := by omega
    clear HZ HALL HIN HOK
    go_enter Tryd.func17, Tryd.ntmps17
    go_wp2_with fail
    refine (HI1.out _).mono ?_
    rintro r w1 ⟨rfl, rfl⟩
    go_wp2_with fail
    refine (HI2.out _).mono ?_
    rintro r w1 ⟨rfl, rfl⟩
    go_wp2_with fail
    go_ret
    exact ⟨ret_int HR.out, HW.out ▸ K0.out.1⟩
  have HZ2 : Hid ((if faultE (al.map Prod.fst) ≠ 0 then faultE (al.map Prod.fst) else if dupE (al.map Prod.fst) = true then 6 else if bu < costsE (al.map Prod.fst) ∨ gu < costsE (kl.map Prod.fst) then 7 else 0) = Z) := by have := HZ.out; rw [if_neg c3] at this; exact this
  have g3 : ¬ (40 : Int) < (tn : Int) + (kn : Int) := by omega
  clear HZ
  have C0 := HALL.out (by omega)
  have CA : Hid (Calls Tryd.prog 48 #[.pointer (some ⟨w.heap.size, 0, none⟩)] W fun e w' => (∃ v, e = .returned v ∧ OwnE w' W.heap.size v al) ∧ Below W.heap.size W w') := C0
  clear HALL C0
  go_enter Tryd.func17, Tryd.ntmps17
  go_wp2_with fail
  refine (HI1.out _).mono ?_
  rintro r w1 ⟨rfl, rfl⟩
  go_wp2_with fail
  refine (HI2.out _).mono ?_
  rintro r w1 ⟨rfl, rfl⟩
  go_wp2_with fail
  rw [← HW.out]
  refine CA.out.mono ?_
  rintro r w1 ⟨⟨v, rfl, hown⟩, hb1⟩
  have hb1' := K0.out.1.trans (hb1.mono K0.out.1.size)
  obtain ⟨aa, ac, rfl, _, hae⟩ := hown.at (HIN.out _ hb1').1
  have K1 : Hid (Below w.heap.size w w1 ∧ S4 w1 w.heap.size (.int .i64 bu) (.int .i64 gu) (.slice ta tn tc) (.slice ka kn kc)) := ⟨hb1', K0.out.2.keep hb1⟩
  have HAE : Hid (EntsIn w1 aa al) := hae
  have HKI : Hid (EntsIn w1 ka kl) := (HIN.out _ hb1').2
  clear hb1 hb1' hown K0 HW CA HIN hae
  rw [HLN.out]
  obtain ⟨n, hn⟩ : ∃ n, tn + kn = n := ⟨_, rfl⟩
  rw [hn] at HLN ⊢
  have hn40 : n ≤ 40 := by omega
  have HSUM : Hid (tn + kn = n) := hn
  clear hn
  go_wp2_with fail
  go_loopw [4] (fun i wr => ∃ k : Nat, k ≤ n ∧ i = .int .i64 k ∧ faultE (al.map Prod.fst) = faultE ((al.map Prod.fst).drop k) ∧ Below w1.heap.size w1 wr) (fun i _ => n - (intOf i).toNat)
  case atStart => exact ⟨0, Nat.zero_le _, rfl, rfl, Below.refl _ _⟩
  case round =>
    obtain ⟨k, hk, rfl, hs, hb⟩ := hrel
    have HS : Hid (faultE (al.map Prod.fst) = faultE ((al.map Prod.fst).drop k)) := hs
    clear hs
    by_cases hlt : k < n
    · obtain ⟨q, hr⟩ : ∃ r, al[k]? = some r := ⟨al[k]'(by have := HLN.out; omega), List.getElem?_eq_getElem _⟩
      rcases HAE.out with h | ⟨b, off, rfl, hat⟩
      · subst h; simp at hr
      have PC := (hat.keep hb).cells hr
      have C : Hid (∀ X, Below w1.heap.size w1 X → Calls Tryd.prog 9 #[.agg #[.string q.1.key, .int .i64 q.1.st, .slice q.2.ha q.1.hs.length q.2.hc, .slice q.2.ba q.1.bl.length q.2.bc, .int .i64 q.1.t, .int .i64 q.1.g, .int .i64 q.1.l, .int .i64 q.1.s, .int .i64 q.1.e, .bool q.1.b1, .bool q.1.b2, .slice q.2.ta q.1.ts.length q.2.tc, .int .i64 q.1.pins]] X fun r w' => r = .returned (.int .i64 (entC q.1)) ∧ Below X.heap.size X w') := fun X hX => specEntry_q X q (HOK.out q (List.mem_of_getElem? hr)) ((hat.keep hX).in hr)
      have HD : Hid (faultE (al.map Prod.fst) = if entC q.1 ≠ 0 then entC q.1 else faultE ((al.map Prod.fst).drop (k + 1))) := by show _ = _; rw [HS.out, faultE_drop hr]
      have g : (k : Int) < n := by omega
      have g0 : (0 : Int) ≤ k := by omega
      have HB : Hid (Below w1.heap.size w1 wr) := hb
      have p0 := PC.1
      have p1 := PC.2.1
      have p2 := PC.2.2.1
      have p3 := PC.2.2.2.1
      have p4 := PC.2.2.2.2.1
      have p5 := PC.2.2.2.2.2.1
      have p6 := PC.2.2.2.2.2.2.1
      have p7 := PC.2.2.2.2.2.2.2.1
      have p8 := PC.2.2.2.2.2.2.2.2.1
      have p9 := PC.2.2.2.2.2.2.2.2.2.1
      have p10 := PC.2.2.2.2.2.2.2.2.2.2.1
      have p11 := PC.2.2.2.2.2.2.2.2.2.2.2.1
      have p12 := PC.2.2.2.2.2.2.2.2.2.2.2.2
      clear PC hr hat HS hb
      generalize entC q.1 = ec at *
      go_wp2_with fail
      refine (C.out _ HB.out).mono ?_
      rintro r w2 ⟨rfl, hb2⟩
      have HB2 : Hid (Below w1.heap.size w1 w2) := HB.out.trans (hb2.mono HB.out.size)
      clear hb2 C HB p0 p1 p2 p3 p4 p5 p6 p7 p8 p9 p10 p11 p12
      by_cases ce : ec = 0
      · have HE : Hid (faultE (al.map Prod.fst) = faultE ((al.map Prod.fst).drop (k + 1))) := by show _ = _; rw [HD.out, if_neg (by simpa using ce)]
        clear HD
        subst ce
        go_wp2_with fail
        go_roundw
        case rel => exact ⟨k + 1, by omega, by go_num, HE.out, HB2.out⟩
        case measure => simp [intOf]; omega
      · have HE : Hid (ec = Z) := by
          show _ = _
          have := HZ2.out
          rw [HD.out, if_pos ce, if_pos ce] at this
          exact this
        clear HD
        go_wp2_with fail
        go_ret
        exact ⟨ret_int HE.out, K1.out.1.trans (HB2.out.mono K1.out.1.size)⟩
    · have HF0 : faultE (al.map Prod.fst) = 0 := by
        rw [HS.out, List.drop_of_length_le (by have := HLN.out; simp; omega), faultE]
      have HZ3 : Hid ((if dupE (al.map Prod.fst) = true then 6 else if bu < costsE (al.map Prod.fst) ∨ gu < costsE (kl.map Prod.fst) then 7 else 0) = Z) := by
        show _ = _
        have := HZ2.out
        rw [HF0] at this
        simpa using this
      have HEC : Hid (∀ q ∈ al, entC q.1 = 0) := fun q hq => faultE_zero HF0 q.1 (List.mem_map_of_mem hq)
      have HB1 : Hid (Below w1.heap.size w1 wr) := hb
      clear HS HF0 HZ2 HOK hb
      go_wp2_with fail
      obtain ⟨wo, rfl⟩ : ∃ wo : World, wo = wr := ⟨_, rfl⟩
      go_loopw [6] (fun i wr => ∃ k : Nat, k ≤ n ∧ i = .int .i64 k ∧ ((keysE (al.map Prod.fst)).take k).Nodup ∧ Below w1.heap.size w1 wr) (fun i _ => n - (intOf i).toNat)
      case atStart => exact ⟨0, Nat.zero_le _, rfl, by simp, HB1.out⟩
      case round =>
        obtain ⟨i, hi, rfl, hnd, hbi⟩ := hrel
        have HND : Hid (((keysE (al.map Prod.fst)).take i).Nodup) := hnd
        have HBI : Hid (Below w1.heap.size w1 wr) := hbi
        clear hnd hbi HB1
        by_cases hli : i < n
        · obtain ⟨q, hr⟩ : ∃ r, al[i]? = some r := ⟨al[i]'(by have := HLN.out; omega), List.getElem?_eq_getElem _⟩
          have HQ : Hid (al[i]? = some q) := hr
          clear hr
          have gi : (i : Int) < n := by omega
          go_wp2_with fail
          obtain ⟨wp, rfl⟩ : ∃ wp : World, wp = wr := ⟨_, rfl⟩
          go_loopw [7] (fun x wr => ∃ j : Nat, j ≤ i ∧ x = .int .i64 j ∧ (∀ (j' : Nat) y, j' < j → (keysE (al.map Prod.fst))[j']? = some y → ¬ q.1.key.toList = y) ∧ Below w1.heap.size w1 wr) (fun x _ => i - (intOf x).toNat)
          case atStart => exact ⟨0, Nat.zero_le _, rfl, fun j' y h => absurd h (by omega), HBI.out⟩
          case round =>
            obtain ⟨j, hj, rfl, hne, hbj⟩ := hrel
            have HNE : Hid (∀ (j' : Nat) y, j' < j → (keysE (al.map Prod.fst))[j']? = some y → ¬ q.1.key.toList = y) := hne
            have HBJ : Hid (Below w1.heap.size w1 wr) := hbj
            clear hne HBI
            by_cases hlj : j < i
            · obtain ⟨p, hp⟩ : ∃ r, al[j]? = some r := ⟨al[j]'(by have := HLN.out; omega), List.getElem?_eq_getElem _⟩
              rcases HAE.out with h | ⟨b, off, rfl, hat⟩
              · subst h; simp at hp
              have a1 := cell_regrown ((hat.keep hbj).cells HQ.out).1
              have a2 := cell_regrown ((hat.keep hbj).cells hp).1
              have HP : Hid (al[j]? = some p) := hp
              have gj : (j : Int) < i := by omega
              have gj0 : (0 : Int) ≤ j := by omega
              have gi0 : (0 : Int) ≤ i := by omega
              have gjn : (j : Int) < n := by omega
              clear hp hat hbj
              by_cases he : q.1.key.toList = p.1.key.toList
              · have HE : Hid (6 = Z) := by
                  show _ = _
                  have := HZ3.out
                  rw [if_pos (dup_of hlj HP.out HQ.out he)] at this
                  exact this
                have e1 : (q.1.key.toList == p.1.key.toList) = true := by simp [he]
                clear he HNE
                generalize q.1.key = qk at *
                generalize p.1.key = pk at *
                go_wp2_with fail
                refine wp_region_quiet_below (by kernel_rfl) (by kernel_rfl) ?_
                repeat (go_big_quiet_step (fail))
                refine wpQuiet_nil ?_
                intro w2 hw2
                have hbb : Below w1.heap.size w1 w2 := by
                  obtain ⟨⟨d, os⟩, rfl⟩ := hw2
                  exact HBJ.out.trans ((below_regrown wr d os).mono HBJ.out.size)
                clear a1 a2 hw2
                go_wp2_with fail
                go_ret
                exact ⟨ret_int HE.out, K1.out.1.trans (hbb.mono K1.out.1.size)⟩
              · have e1 : (q.1.key.toList == p.1.key.toList) = false := by simp [he]
                have HN2 : Hid (∀ (j' : Nat) y, j' < j + 1 → (keysE (al.map Prod.fst))[j']? = some y → ¬ q.1.key.toList = y) := by
                  intro j' y h1 h2
                  by_cases e : j' = j
                  · subst e
                    rw [keys_at HP.out] at h2
                    obtain rfl := Option.some.inj h2
                    exact he
                  · exact HNE.out j' y (by omega) h2
                clear he HNE
                obtain ⟨qk, hqk⟩ : ∃ k, q.1.key = k := ⟨_, rfl⟩
                obtain ⟨pk, hpk⟩ : ∃ k, p.1.key = k := ⟨_, rfl⟩
                rw [hqk] at a1 e1
                rw [hpk] at a2 e1
                go_wp2_with fail
                refine wp_region_quiet_below (by kernel_rfl) (by kernel_rfl) ?_
                repeat (go_big_quiet_step (fail))
                refine wpQuiet_nil ?_
                intro w2 hw2
                have hbb : Below w1.heap.size w1 w2 := by
                  obtain ⟨⟨d, os⟩, rfl⟩ := hw2
                  exact HBJ.out.trans ((below_regrown wr d os).mono HBJ.out.size)
                clear a1 a2 hw2
                go_wp2_with fail
                go_roundw
                case rel => exact ⟨j + 1, by omega, by go_num, HN2.out, hbb⟩
                case measure => simp [intOf]; omega
            · have hji : j = i := by omega
              subst hji
              have HN2 : Hid (((keysE (al.map Prod.fst)).take (j + 1)).Nodup) := nodup_succ HND.out (keys_at HQ.out) HNE.out
              clear HNE hbj
              go_wp2_with fail
              go_roundw
              case rel => exact ⟨j + 1, by omega, by go_num, HN2.out, HBJ.out⟩
              case measure => simp [intOf]; omega
        · have hd : dupE (al.map Prod.fst) = false := by
            have := HND.out
            rw [List.take_of_length_le (by have := HLN.out; unfold keysE; simp; omega)] at this
            unfold dupE
            simp [this]
          have HZ4 : Hid ((if bu < costsE (al.map Prod.fst) ∨ gu < costsE (kl.map Prod.fst) then 7 else 0) = Z) := by
            show _ = _
            have := HZ3.out
            rw [hd] at this
            simpa using this
          have hbi := HBI.out
          have KK := K1.out.2.keep hbi
          have cA : ∀ d os, Calls Tryd.prog 49 #[.slice aa n ac] (grow (redrawn wr d) os) fun e w'' => e = .returned (.int .i64 (costsE (al.map Prod.fst))) ∧ ∃ p : Regrown, w'' = grow (redrawn wr p.d) p.os := fun d os => Calls.regrown_of (by
            have := l8Costs_any (grow (redrawn wr d) os) aa ac al (by rw [HLN.out]; exact hn40) (HAE.out.keep (hbi.trans ((below_regrown wr d os).mono hbi.size))) HEC.out
            rw [HLN.out] at this
            exact this)
          have cK : ∀ d os, Calls Tryd.prog 49 #[.slice ka kn kc] (grow (redrawn wr d) os) fun e w'' => e = .returned (.int .i64 (costsE (kl.map Prod.fst))) ∧ ∃ p : Regrown, w'' = grow (redrawn wr p.d) p.os := fun d os => Calls.regrown_of (by
            have hsum := HSUM.out
            have := l8Costs_any (grow (redrawn wr d) os) ka kc kl (by rw [hkn.out]; omega) (HKI.out.keep (hbi.trans ((below_regrown wr d os).mono hbi.size))) (fun q hq => HEC.out q (HKL.out q hq))
            rw [hkn.out] at this
            exact this)
          have a0 := cell_regrown KK.c0
          have a1 := cell_regrown KK.c1
          have a3 := cell_regrown KK.c3
          have HBW : Hid (Below w.heap.size w wr) := K1.out.1.trans (hbi.mono K1.out.1.size)
          clear hd HZ3 HND HBI HEC KK hbi HAE HKI HKL K1 HI1 HI2
          generalize costsE (al.map Prod.fst) = ca at *
          generalize costsE (kl.map Prod.fst) = ck at *
          by_cases d1 : bu < ca
          · have HE : Hid (7 = Z) := by have := HZ4.out; rw [if_pos (.inl d1)] at this; exact this
            clear HZ4
            go_wp2_with fail
            refine wp_region_quiet_below (by kernel_rfl) (by kernel_rfl) ?_
            repeat (go_big_quiet_step (first | (go_at_call 49; exact cA _ _)))
            refine wpQuiet_nil ?_
            intro w2 hw2
            have hbb : Below w.heap.size w w2 := by
              obtain ⟨⟨d, os⟩, rfl⟩ := hw2
              exact HBW.out.trans ((below_regrown wr d os).mono HBW.out.size)
            clear a0 a1 a3 hw2 cA cK
            go_wp2_with fail
            go_ret
            exact ⟨ret_int HE.out, hbb⟩
          have dd1 : decide (bu < ca) = false := decide_eq_false (by omega)
          by_cases d2 : gu < ck
          · have dd2 : decide (gu < ck) = true := decide_eq_true d2
            have HE : Hid (7 = Z) := by have := HZ4.out; rw [if_pos (.inr d2)] at this; exact this
            clear HZ4
            go_wp2_with fail
            refine wp_region_quiet_below (by kernel_rfl) (by kernel_rfl) ?_
            repeat (go_big_quiet_step (first | (go_at_call 49; with_reducible exact cA _ _) | (go_at_call 49; with_reducible exact cK _ _)))
            refine wpQuiet_nil ?_
            intro w2 hw2
            have hbb : Below w.heap.size w w2 := by
              obtain ⟨⟨d, os⟩, rfl⟩ := hw2
              exact HBW.out.trans ((below_regrown wr d os).mono HBW.out.size)
            clear a0 a1 a3 hw2 cA cK
            go_wp2_with fail
            go_ret
            exact ⟨ret_int HE.out, hbb⟩
          · have dd2 : decide (gu < ck) = false := decide_eq_false d2
            have HE : Hid (0 = Z) := by have := HZ4.out; rw [if_neg (by omega)] at this; exact this
            clear HZ4
            go_wp2_with fail
            refine wp_region_quiet_below (by kernel_rfl) (by kernel_rfl) ?_
            repeat (go_big_quiet_step (first | (go_at_call 49; with_reducible exact cA _ _) | (go_at_call 49; with_reducible exact cK _ _)))
            refine wpQuiet_nil ?_
            intro w2 hw2
            have hbb : Below w.heap.size w w2 := by
              obtain ⟨⟨d, os⟩, rfl⟩ := hw2
              exact HBW.out.trans ((below_regrown wr d os).mono HBW.out.size)
            clear a0 a1 a3 hw2 cA cK
            go_wp2_with fail
            go_ret
            exact ⟨ret_int HE.out, hbb⟩
end Go.Proofs.YtelbddgdaibolaaDoor
/-
  Is it a store? The program's answer.
-/
namespace Go.Proofs.YtelbddgdaibolaaDoor
open Go.ChangeShapes Go.WideShapes Go.ChangeAt Go.RowKit Go.Sort
theorem implEntry_h (w : World) (h : Hdl) (hset : SetIs w) (ho : EntOk h.x) (ht : HThere w h) :
    Calls Tryd.prog 11 #[.agg #[.string h.x.key, .int .i64 h.x.st, .slice h.r.ha h.x.hs.length h.r.hc, .slice h.r.ba h.x.bl.length h.r.bc, .int .i64 h.x.t, .int .i64 h.x.g, .int .i64 h.x.l, .int .i64 h.x.s, .int .i64 h.x.e, .bool h.x.b1, .bool h.x.b2, .slice h.r.ta h.x.ts.length h.r.tc, .int .i64 h.x.pins]] w fun r w' => r = .returned (.int .i64 (entC h.x)) ∧ Below w.heap.size w w' :=
  implEntry_any w _ _ _ _ _ _ _ _ _ _ _ _ _ _ _ _ _ _ _ ho.key ho.h ho.b ho.t hset ht.2.h
theorem faultE_dropH {l : List Hdl} {k : Nat} {q : Hdl} (h : l[k]? = some q) : faultE ((l.map Hdl.x).drop k) = if entC q.x ≠ 0 then entC q.x else faultE ((l.map Hdl.x).drop (k + 1)) := by
  obtain ⟨hk, rfl⟩ := List.getElem?_eq_some_iff.1 h
  rw [List.drop_eq_getElem_cons (i := k) (by simpa using hk), faultE]
  simp
set_option maxRecDepth 100000 in
set_option maxHeartbeats 16000000 in
theorem implSto_any (w : World) (bu gu : Int) (ta ka : Option Addr) (tc kc : Nat) (tl kl : List (Ent × EntR)) (hset : SetIs w) (hl : tl.length ≤ 1048576) (hk : kl.length ≤ 1048576) (hto : ∀ q ∈ tl ++ kl, EntOk q.1) (ht : EntsIn w ta tl) (hq : EntsIn w ka kl) :
    Calls Tryd.prog 19 #[.agg #[.int .i64 bu, .int .i64 gu, .slice ta tl.length tc, .slice ka kl.length kc]] w fun r w' => r = .returned (.int .i64 (storeC bu gu (tl.map Prod.fst) (kl.map Prod.fst))) ∧ Below w.heap.size w w' := by
  obtain ⟨W, hW⟩ : ∃ W, W = w.alloc (.cells #[.int .i64 bu, .int .i64 gu, .slice ta tl.length tc, .slice ka kl.length kc] 49) := ⟨_, rfl⟩
  have HW : Hid (W = w.alloc (.cells #[.int .i64 bu, .int .i64 gu, .slice ta tl.length tc, .slice ka kl.length kc] 49)) := hW
  have K0 : Hid (Below w.heap.size w W ∧ S4 W w.heap.size (.int .i64 bu) (.int .i64 gu) (.slice ta tl.length tc) (.slice ka kl.length kc)) := by
    rw [hW]; exact ⟨(Below.refl _ _).alloc (Nat.le_refl _) _, S4.new w _ _ _ _ _⟩
  obtain ⟨H1, hH1⟩ : ∃ H, hdlsA ta tl = H := ⟨_, rfl⟩
  obtain ⟨H2, hH2⟩ : ∃ H, hdlsA ka kl = H := ⟨_, rfl⟩
  have e1 : H1.map Hdl.x = tl.map Prod.fst := by rw [← hH1]; exact hdlsA_x ta tl
  have e2 : H2.map Hdl.x = kl.map Prod.fst := by rw [← hH2]; exact hdlsA_x ka kl
  have l1 : H1.length = tl.length := by rw [← hH1]; exact hdlsA_len ta tl
  have l2 : H2.length = kl.length := by rw [← hH2]; exact hdlsA_len ka kl
  have HSH : Hid (Calls Tryd.prog 51 #[.agg #[.int .i64 bu, .int .i64 gu, .slice ta tl.length tc, .slice ka kl.length kc]] W fun e w' => (∃ v1 v2, e = .returned (.agg #[v1, v2]) ∧ Two w' W.heap.size v1 v2 H1 H2) ∧ Below W.heap.size W w') := by
    have := shelvesOf_any W bu gu ta ka tc kc tl kl hl hk (ht.keep K0.out.1) (hq.keep K0.out.1)
    rw [hH1, hH2] at this
    exact this
  have HTH : Hid (∀ X, Below w.heap.size w X → ∀ h ∈ H1 ++ H2, HThere X h) := fun X hX h hh => by
    rcases List.mem_append.1 hh with hh | hh
    · rw [← hH1] at hh; exact hdlsA_there (ht.keep hX) h hh
    · rw [← hH2] at hh; exact hdlsA_there (hq.keep hX) h hh
  have HOK : Hid (∀ h ∈ H1 ++ H2, EntOk h.x) := fun h hh => by
    have : h.x ∈ (tl ++ kl).map Prod.fst := by
      rw [List.map_append, ← e1, ← e2, ← List.map_append]
      exact List.mem_map_of_mem hh
    obtain ⟨q, hq', e⟩ := List.mem_map.1 this
    rw [← e]
    exact hto q hq'
  have HSET : Hid (∀ X, Below w.heap.size w X → SetIs X) := fun X hX => hset.below hX
  obtain ⟨Z, hZ⟩ : ∃ Z, storeC bu gu (tl.map Prod.fst) (kl.map Prod.fst) = Z := ⟨_, rfl⟩
  rw [hZ]
  unfold storeC at hZ
  rw [← e1, ← e2, List.length_map, List.length_map, l1, l2, ← List.map_append] at hZ
  have HZ : Hid (_ = Z) := hZ
  clear hZ hW ht hq hto hH1 hH2 e1 e2 hset
  obtain ⟨tn, htn⟩ : ∃ n, tl.length = n := ⟨_, rfl⟩
  obtain ⟨kn, hkn⟩ : ∃ n, kl.length = n := ⟨_, rfl⟩
  rw [htn] at HW K0 l1 HSH HZ hl
  rw [hkn] at HW K0 l2 HSH HZ hk
  rw [htn, hkn]
  have HL1 : Hid (H1.length = tn) := l1
  have HL2 : Hid (H2.length = kn) := l2
  clear l1 l2 htn hkn
  by_cases c1 : bu < 0
  · have HR : Hid (3 = Z) := by have := HZ.out; rw [if_pos (by omega)] at this; exact this
    clear HZ HSH HTH HOK HSET
    go_enter Tryd.func19, Tryd.ntmps19
    go_wp2_with fail
    go_ret
    exact ⟨ret_int HR.out, HW.out ▸ K0.out.1⟩
  by_cases c1b : 1000000 < bu
  · have HR : Hid (3 = Z) := by have := HZ.out; rw [if_pos (by omega)] at this; exact this
    clear HZ HSH HTH HOK HSET
    go_enter Tryd.func19, Tryd.ntmps19
    go_wp2_with fail
    go_ret
    exact ⟨ret_int HR.out, HW.out ▸ K0.out.1⟩
  by_cases c2 : gu < 0
  · have HR : Hid (3 = Z) := by have := HZ.out; rw [if_pos (by omega)] at this; exact this
    clear HZ HSH HTH HOK HSET
    go_enter Tryd.func19, Tryd.ntmps19
    go_wp2_with fail
    go_ret
    exact ⟨ret_int HR.out, HW.out ▸ K0.out.1⟩
  by_cases c2b : bu < gu
  · have HR : Hid (3 = Z) := by have := HZ.out; rw [if_pos (by omega)] at this; exact this
    clear HZ HSH HTH HOK HSET
    go_enter Tryd.func19, Tryd.ntmps19
    go_wp2_with fail
    go_ret
    exact ⟨ret_int HR.out, HW.out ▸ K0.out.1⟩
  rw [if_neg (by omega)] at HZ
  have ew : IntKind.i64.wrap ((tn : Int) + (kn : Int)) = (tn : Int) + (kn : Int) := by
    unfold IntKind.wrap; simp [IntKind.signed, IntKind.bits]; omega
  by_cases c3 : 40 < tn + kn
  · have HR : Hid (2 = Z) := by have := HZ.out; rw [if_pos c3] at this; exact this
    have g3 : (40 : Int) < (tn : Int) + (kn : Int) := by omega
    clear HZ HSH HTH HOK HSET
    go_enter Tryd.func19, Tryd.ntmps19
    go_wp2_with fail
    go_ret
    exact ⟨ret_int HR.out, HW.out ▸ K0.out.1⟩
  have HZ2 : Hid ((if faultE ((H1 ++ H2).map Hdl.x) ≠ 0 then faultE ((H1 ++ H2).map Hdl.x) else if dupE ((H1 ++ H2).map Hdl.x) = true then 6 else if bu < costsE ((H1 ++ H2).map Hdl.x) ∨ gu < costsE (H2.map Hdl.x) then 7 else 0) = Z) := by have := HZ.out; rw [if_neg c3] at this; exact this
  have g3 : ¬ (40 : Int) < (tn : Int) + (kn : Int) := by omega
  clear HZ
  go_enter Tryd.func19, Tryd.ntmps19
  go_wp2_with fail
  rw [← HW.out]
  refine HSH.out.mono ?_
  rintro r w1 ⟨⟨v1, v2, rfl, h2⟩, hb1⟩
  obtain ⟨a1, k1, rfl, _⟩ := h2.a.form
  obtain ⟨a2, k2, rfl, _⟩ := h2.b.form
  rw [HL1.out, HL2.out] at h2 ⊢
  obtain ⟨V, hV⟩ : ∃ V, V = w1.alloc (.cells #[.slice a1 tn k1, .slice a2 kn k2] 86) := ⟨_, rfl⟩
  have HV : Hid (V = w1.alloc (.cells #[.slice a1 tn k1, .slice a2 kn k2] 86)) := hV
  obtain ⟨sh, hsh⟩ : ∃ sh, Hid (w1.heap.size = sh) := ⟨_, rfl⟩
  have HK : Hid (∀ X, Below V.heap.size V X → Below w.heap.size w X ∧ S4 X w.heap.size (.int .i64 bu) (.int .i64 gu) (.slice ta tn tc) (.slice ka kn kc) ∧ X.cell? ⟨sh, 0, none⟩ = some (.slice a1 tn k1) ∧ X.cell? ⟨sh, 1, none⟩ = some (.slice a2 kn k2) ∧ Two X W.heap.size (.slice a1 tn k1) (.slice a2 kn k2) H1 H2) := fun X hX => by
    have aV : Below w1.heap.size w1 V := by rw [hV]; exact (Below.refl _ _).alloc (Nat.le_refl _) _
    have b1 := K0.out.1.trans (hb1.mono K0.out.1.size)
    have bV := b1.trans (aV.mono b1.size)
    have hVs : w1.heap.size < V.heap.size := by rw [hV]; simp
    refine ⟨bV.trans (hX.mono bV.size), ((K0.out.2.keep hb1).keep aV).keep hX, ?_, ?_, (h2.below aV).below hX⟩
    · rw [← hsh.out, hX.cell (p := ⟨w1.heap.size, 0, none⟩) hVs, hV]; simp
    · rw [← hsh.out, hX.cell (p := ⟨w1.heap.size, 1, none⟩) hVs, hV]; simp
  clear hV h2 hb1 K0 HSH HW
  have h40 : tn + kn ≤ 40 := by omega
  have HALL : Hid (∀ X, Below V.heap.size V X → Calls Tryd.prog 52 #[.agg #[.slice a1 tn k1, .slice a2 kn k2]] X fun e w' => (∃ v, e = .returned v ∧ OwnP w' X.heap.size v (H1 ++ H2)) ∧ Below X.heap.size X w') := fun X hX => shAll_any X _ _ _ H1 H2 (HK.out X hX).2.2.2.2 (by rw [HL1.out, HL2.out]; omega)
  have HLN : Hid ((H1 ++ H2).length = tn + kn) := by show _ = _; rw [List.length_append, HL1.out, HL2.out]
  have q0 := (HK.out V (Below.refl _ _)).2.2.1
  have q1 := (HK.out V (Below.refl _ _)).2.2.2.1
  rw [HV.out, ← hsh.out] at q0 q1
  go_wp2_with fail
  rw [← HV.out]
  refine (HALL.out V (Below.refl _ _)).mono ?_
  rintro r w2 ⟨⟨v, rfl, ho⟩, hb2⟩
  obtain ⟨av, ac, rfl, _, hf⟩ := ho.form
  rw [HLN.out] at ho ⊢
  rw [hsh.out]
  have HC : Hid (∀ X, Below w2.heap.size w2 X → ∀ (k : Nat) h, (H1 ++ H2)[k]? = some h → ∃ g, av = some ⟨g, 0, none⟩ ∧ X.cell? ⟨g, k, none⟩ = some (.pointer (some ⟨h.b, h.o, none⟩))) := fun X hX k h hk => by
    rcases hf with e | ⟨g, e, _, hg, hc⟩
    · rw [e] at hk; simp at hk
    · exact ⟨g, e, by rw [hX.cell (p := ⟨g, k, none⟩) hg]; exact hc k h hk⟩
  have HB2 : Hid (Below V.heap.size V w2) := hb2
  clear q0 q1 hf ho hb2 HV hsh
  obtain ⟨n, hn⟩ : ∃ n, tn + kn = n := ⟨_, rfl⟩
  rw [hn] at HLN h40 ⊢
  clear hn
  obtain ⟨al, hal⟩ : ∃ al, H1 ++ H2 = al := ⟨_, rfl⟩
  have HSUB : Hid (∀ h ∈ H2, h ∈ al) := fun h hh => by rw [← hal]; exact List.mem_append_right _ hh
  have HAL : Hid (H1 ++ H2 = al) := hal
  rw [hal] at HTH HOK HZ2 HALL HLN HC
  clear hal
  go_wp2_with fail
  go_loopw [40] (fun i wr => ∃ k : Nat, k ≤ n ∧ i = .int .i64 k ∧ faultE (al.map Hdl.x) = faultE ((al.map Hdl.x).drop k) ∧ Below w2.heap.size w2 wr) (fun i _ => n - (intOf i).toNat)
  case atStart => exact ⟨0, Nat.zero_le _, rfl, rfl, Below.refl _ _⟩
  case round =>
    obtain ⟨k, hk', rfl, hs, hb⟩ := hrel
    have HS : Hid (faultE (al.map Hdl.x) = faultE ((al.map Hdl.x).drop k)) := hs
    clear hs
    have HBV : Hid (Below V.heap.size V wr) := HB2.out.trans (hb.mono HB2.out.size)
    by_cases hlt : k < n
    · obtain ⟨q, hr⟩ : ∃ r, al[k]? = some r := ⟨al[k]'(by have := HLN.out; omega), List.getElem?_eq_getElem _⟩
      obtain ⟨g', rfl, p⟩ := HC.out wr hb k q hr
      have hw := (HK.out wr HBV.out).1
      have hmem := List.mem_of_getElem? hr
      have PC := (HTH.out wr hw q hmem).cells
      have C : Hid (Calls Tryd.prog 11 #[.agg #[.string q.x.key, .int .i64 q.x.st, .slice q.r.ha q.x.hs.length q.r.hc, .slice q.r.ba q.x.bl.length q.r.bc, .int .i64 q.x.t, .int .i64 q.x.g, .int .i64 q.x.l, .int .i64 q.x.s, .int .i64 q.x.e, .bool q.x.b1, .bool q.x.b2, .slice q.r.ta q.x.ts.length q.r.tc, .int .i64 q.x.pins]] wr fun r w' => r = .returned (.int .i64 (entC q.x)) ∧ Below wr.heap.size wr w') := implEntry_h wr q (HSET.out wr hw) (HOK.out q hmem) (HTH.out wr hw q hmem)
      have HD : Hid (faultE (al.map Hdl.x) = if entC q.x ≠ 0 then entC q.x else faultE ((al.map Hdl.x).drop (k + 1))) := by show _ = _; rw [HS.out, faultE_dropH hr]
      have g : (k : Int) < n := by omega
      have g0 : (0 : Int) ≤ k := by omega
      have HB : Hid (Below w2.heap.size w2 wr) := hb
      have p0 := PC.1
      have p1 := PC.2.1
      have p2 := PC.2.2.1
      have p3 := PC.2.2.2.1
      have p4 := PC.2.2.2.2.1
      have p5 := PC.2.2.2.2.2.1
      have p6 := PC.2.2.2.2.2.2.1
      have p7 := PC.2.2.2.2.2.2.2.1
      have p8 := PC.2.2.2.2.2.2.2.2.1
      have p9 := PC.2.2.2.2.2.2.2.2.2.1
      have p10 := PC.2.2.2.2.2.2.2.2.2.2.1
      have p11 := PC.2.2.2.2.2.2.2.2.2.2.2.1
      have p12 := PC.2.2.2.2.2.2.2.2.2.2.2.2
      clear PC hr HS hb hw hmem
      generalize entC q.x = ec at *
      go_wp2_with fail
      refine C.out.mono ?_
      rintro r w3 ⟨rfl, hb3⟩
      have HB3 : Hid (Below w2.heap.size w2 w3) := HB.out.trans (hb3.mono HB.out.size)
      clear hb3 C HB p p0 p1 p2 p3 p4 p5 p6 p7 p8 p9 p10 p11 p12
      by_cases ce : ec = 0
      · have HE : Hid (faultE (al.map Hdl.x) = faultE ((al.map Hdl.x).drop (k + 1))) := by show _ = _; rw [HD.out, if_neg (by simpa using ce)]
        clear HD
        subst ce
        go_wp2_with fail
        go_roundw
        case rel => exact ⟨k + 1, by omega, by go_num, HE.out, HB3.out⟩
        case measure => simp [intOf]; omega
      · have HE : Hid (ec = Z) := by
          show _ = _
          have := HZ2.out
          rw [HD.out, if_pos ce, if_pos ce] at this
          exact this
        clear HD
        have HBW : Hid (Below w.heap.size w w3) := (HK.out w3 (HB2.out.trans (HB3.out.mono HB2.out.size))).1
        go_wp2_with fail
        go_ret
        exact ⟨ret_int HE.out, HBW.out⟩
    · have HF0 : faultE (al.map Hdl.x) = 0 := by
        rw [HS.out, List.drop_of_length_le (by have := HLN.out; simp; omega), faultE]
      have HZ3 : Hid ((if dupE (al.map Hdl.x) = true then 6 else if bu < costsE (al.map Hdl.x) ∨ gu < costsE (H2.map Hdl.x) then 7 else 0) = Z) := by
        show _ = _
        have := HZ2.out
        rw [HF0] at this
        simpa using this
      have HEC : Hid (∀ q ∈ al, entC q.x = 0) := fun q hq => faultE_zero HF0 q.x (List.mem_map_of_mem hq)
      clear HS HF0 HZ2 HC HB2 hb
      have q0 := (HK.out wr HBV.out).2.2.1
      have q1 := (HK.out wr HBV.out).2.2.2.1
      go_wp2_with fail
      refine (HALL.out wr HBV.out).mono ?_
      rintro r w3 ⟨⟨v, rfl, ho⟩, hb3⟩
      have HB3 : Hid (Below V.heap.size V w3) := HBV.out.trans (hb3.mono HBV.out.size)
      have hw3 := (HK.out w3 HB3.out).1
      have C3 : Hid (Calls Tryd.prog 53 #[v] w3 fun e w' => e = .returned (.bool (dupE (al.map Hdl.x))) ∧ Below w3.heap.size w3 w') := keyTwice_any w3 v _ al ho (by rw [HLN.out]; omega) (fun h hh => HTH.out w3 hw3 h hh) (fun h hh => (HOK.out h hh).key)
      clear ho hb3 hw3 q0 q1 HALL HBV
      go_wp2_with fail
      refine C3.out.mono ?_
      rintro r w4 ⟨rfl, hb4⟩
      have HB4 : Hid (Below V.heap.size V w4) := HB3.out.trans (hb4.mono HB3.out.size)
      clear hb4 C3 HB3
      have hw4 := (HK.out w4 HB4.out).1
      obtain ⟨hK1, hS4, hc0, hc1, h2⟩ := HK.out w4 HB4.out
      have HBW : Hid (Below w.heap.size w w4) := hw4
      cases hd : dupE (al.map Hdl.x)
      · rw [hd] at HZ3
        simp only [Bool.false_eq_true, if_false] at HZ3
        have cA : ∀ d os, Calls Tryd.prog 54 #[.agg #[.slice a1 tn k1, .slice a2 kn k2]] (grow (redrawn w4 d) os) fun e w'' => e = .returned (.int .i64 (costsE (al.map Hdl.x))) ∧ ∃ p : Regrown, w'' = grow (redrawn w4 p.d) p.os := fun d os => Calls.regrown_of (by
          have b := below_regrown w4 d os
          have bw := hw4.trans (b.mono hw4.size)
          have := shCost_any (grow (redrawn w4 d) os) _ _ _ H1 H2 (h2.below b) (HSET.out _ bw) (by rw [← List.length_append, HAL.out, HLN.out]; omega) (fun h hh => HTH.out _ bw h (HAL.out ▸ hh)) (fun h hh => HEC.out h (HAL.out ▸ hh))
          rw [HAL.out] at this
          exact this)
        have cK : ∀ d os, Calls Tryd.prog 55 #[.agg #[.slice a2 kn k2], .func (.func 46) #[] #[]] (grow (redrawn w4 d) os) fun e w'' => e = .returned (.int .i64 (costsE (H2.map Hdl.x))) ∧ ∃ p : Regrown, w'' = grow (redrawn w4 p.d) p.os := fun d os => Calls.regrown_of (by
          have b := below_regrown w4 d os
          have bw := hw4.trans (b.mono hw4.size)
          exact shSum_any (grow (redrawn w4 d) os) _ _ H2 (h2.b.below b) (HSET.out _ bw) (by rw [HL2.out]; have := HLN.out; rw [← HAL.out, List.length_append, HL1.out, HL2.out] at this; omega) (fun h hh => HTH.out _ bw h (HSUB.out h hh)) (fun h hh => HEC.out h (HSUB.out h hh)))
        have a0 := cell_regrown hS4.c0
        have a1' := cell_regrown hS4.c1
        have s0 := cell_regrown hc0
        have s1 := cell_regrown hc1
        clear hd HEC HTH HOK HSET HK hS4 hc0 hc1 h2 hK1 hw4 HB4 HSUB HAL HL1 HL2
        generalize costsE (al.map Hdl.x) = ca at *
        generalize costsE (H2.map Hdl.x) = ck at *
        have FIN : Hid (∀ w2', (∃ p : Regrown, w2' = grow (redrawn w4 p.d) p.os) → Below w.heap.size w w2') := fun w2' hw2 => by
          obtain ⟨⟨d, os⟩, rfl⟩ := hw2
          exact HBW.out.trans ((below_regrown w4 d os).mono HBW.out.size)
        by_cases d1 : bu < ca
        · have HE : Hid (7 = Z) := by have := HZ3.out; rw [if_pos (.inl d1)] at this; exact this
          have dd1 : decide (bu < ca) = true := decide_eq_true d1
          clear HZ3
          go_wp2_with fail
          refine wp_region_quiet_below (by kernel_rfl) (by kernel_rfl) ?_
          repeat (go_big_quiet_step (first | (go_at_call 54; with_reducible exact cA _ _) | (go_at_call 55; with_reducible exact cK _ _)))
          refine wpQuiet_nil ?_
          intro w5 hw5
          have hbb := FIN.out w5 hw5
          clear a0 a1' s0 s1 hw5 cA cK FIN
          go_wp2_with fail
          go_ret
          exact ⟨ret_int HE.out, hbb⟩
        have dd1 : decide (bu < ca) = false := decide_eq_false (by omega)
        by_cases d2 : gu < ck
        · have HE : Hid (7 = Z) := by have := HZ3.out; rw [if_pos (.inr d2)] at this; exact this
          have dd2 : decide (gu < ck) = true := decide_eq_true d2
          clear HZ3
          go_wp2_with fail
          refine wp_region_quiet_below (by kernel_rfl) (by kernel_rfl) ?_
          repeat (go_big_quiet_step (first | (go_at_call 54; with_reducible exact cA _ _) | (go_at_call 55; with_reducible exact cK _ _)))
          refine wpQuiet_nil ?_
          intro w5 hw5
          have hbb := FIN.out w5 hw5
          clear a0 a1' s0 s1 hw5 cA cK FIN
          go_wp2_with fail
          go_ret
          exact ⟨ret_int HE.out, hbb⟩
        · have HE : Hid (0 = Z) := by have := HZ3.out; rw [if_neg (by omega)] at this; exact this
          have dd2 : decide (gu < ck) = false := decide_eq_false (by omega)
          clear HZ3
          go_wp2_with fail
          refine wp_region_quiet_below (by kernel_rfl) (by kernel_rfl) ?_
          repeat (go_big_quiet_step (first | (go_at_call 54; with_reducible exact cA _ _) | (go_at_call 55; with_reducible exact cK _ _)))
          refine wpQuiet_nil ?_
          intro w5 hw5
          have hbb := FIN.out w5 hw5
          clear a0 a1' s0 s1 hw5 cA cK FIN
          go_wp2_with fail
          go_ret
          exact ⟨ret_int HE.out, hbb⟩
      · have HE : Hid (6 = Z) := by have := HZ3.out; rw [hd, if_pos rfl] at this; exact this
        clear HZ3 hd HEC HTH HOK HSET HK hS4 hc0 hc1 h2 hK1 hw4 HB4
        go_wp2_with fail
        go_ret
        exact ⟨ret_int HE.out, HBW.out⟩
end Go.Proofs.YtelbddgdaibolaaDoor
/-
  Two lists of entries that are alike, compared by the laws.
-/
namespace Go.Proofs.YtelbddgdaibolaaDoor
open Go.ChangeShapes Go.WideShapes Go.ChangeAt Go.RowKit Go.Sort
theorem eqEntry_q (w : World) (x : Ent) (r1 r2 : EntR) (hf : EntFit x) (h1 : EntIn w x r1) (h2 : EntIn w x r2) :
    Calls Tryd.prog 12 #[.agg #[.string x.key, .int .i64 x.st, .slice r1.ha x.hs.length r1.hc, .slice r1.ba x.bl.length r1.bc, .int .i64 x.t, .int .i64 x.g, .int .i64 x.l, .int .i64 x.s, .int .i64 x.e, .bool x.b1, .bool x.b2, .slice r1.ta x.ts.length r1.tc, .int .i64 x.pins], .agg #[.string x.key, .int .i64 x.st, .slice r2.ha x.hs.length r2.hc, .slice r2.ba x.bl.length r2.bc, .int .i64 x.t, .int .i64 x.g, .int .i64 x.l, .int .i64 x.s, .int .i64 x.e, .bool x.b1, .bool x.b2, .slice r2.ta x.ts.length r2.tc, .int .i64 x.pins]] w fun r w' => r = .returned (.bool true) ∧ Below w.heap.size w w' :=
  eqEntry_same w _ _ _ _ _ _ _ _ _ _ _ _ _ _ _ _ _ _ _ _ _ _ _ _ _ hf.h hf.b hf.t h1.h h2.h h1.b h2.b h1.k h2.k
set_option maxHeartbeats 1000000 in
theorem eqEntryS_none (w : World) (a b : Option Addr) (c d : Nat) :
    Calls Tryd.prog 56 #[.slice a 0 c, .slice b 0 d] w fun e w' => e = .returned (.bool true) ∧ Below w.heap.size w w' := by
  go_enter Tryd.func56, Tryd.ntmps56
  go_wp2_with fail
  go_loop [5] (fun i => i = .int .i64 0) (fun _ => 0)
  case atStart => exact rfl
  case round =>
    cases hrel
    go_wp2_with fail
    go_ret
    exact ⟨rfl, Below.refl _ _⟩
set_option maxRecDepth 100000 in
set_option maxHeartbeats 8000000 in
theorem eqEntryS_at (w : World) (b1 o1 b2 o2 c1 c2 : Nat) (l m : List (Ent × EntR)) (n : Nat) (hn : l.length = n) (hl : n ≤ 1048576) (hf : ∀ q ∈ l, EntFit q.1) (hm : l.map Prod.fst = m.map Prod.fst) (h1 : EntsAt w b1 o1 l) (h2 : EntsAt w b2 o2 m) :
    Calls Tryd.prog 56 #[.slice (some ⟨b1, o1, none⟩) n c1, .slice (some ⟨b2, o2, none⟩) n c2] w fun e w' => e = .returned (.bool true) ∧ Below w.heap.size w w' := by
  have H1 : Hid (EntsAt w b1 o1 l) := h1
  have H2 : Hid (EntsAt w b2 o2 m) := h2
  have HFT : Hid (∀ q ∈ l, EntFit q.1) := hf
  have HMP : Hid (l.map Prod.fst = m.map Prod.fst) := hm
  have HN : Hid (l.length = n) := hn
  clear h1 h2 hf hm hn
  go_enter Tryd.func56, Tryd.ntmps56
  go_wp2_with fail
  go_loopw [5] (fun i wr => ∃ k : Nat, k ≤ n ∧ i = .int .i64 k ∧ Below w.heap.size w wr) (fun i _ => n - (intOf i).toNat)
  case atStart => exact ⟨0, Nat.zero_le _, rfl, Below.refl _ _⟩
  case round =>
    obtain ⟨k, hk, rfl, hb⟩ := hrel
    by_cases hlt : k < n
    · obtain ⟨⟨x, r1⟩, hr⟩ : ∃ r, l[k]? = some r := ⟨l[k]'(by have := HN.out; omega), List.getElem?_eq_getElem _⟩
      obtain ⟨r2, hr2⟩ : ∃ r2, m[k]? = some (x, r2) := by
        have e := congrArg (fun z => z[k]?) HMP.out
        simp only [List.getElem?_map, hr, Option.map_some] at e
        obtain ⟨⟨y, r2⟩, e1, e2⟩ := Option.map_eq_some_iff.1 e.symm
        simp only at e2
        exact ⟨r2, by rw [e1, e2]⟩
      have P1 := (H1.out.keep hb).cells hr
      have P2 := (H2.out.keep hb).cells hr2
      simp only at P1 P2
      have I1 := (H1.out.keep hb).in hr
      have I2 := (H2.out.keep hb).in hr2
      have ft := HFT.out _ (List.mem_of_getElem? hr)
      simp only at I1 I2 ft
      have cE : ∀ d os, Calls Tryd.prog 12 #[.agg #[.string x.key, .int .i64 x.st, .slice r1.ha x.hs.length r1.hc, .slice r1.ba x.bl.length r1.bc, .int .i64 x.t, .int .i64 x.g, .int .i64 x.l, .int .i64 x.s, .int .i64 x.e, .bool x.b1, .bool x.b2, .slice r1.ta x.ts.length r1.tc, .int .i64 x.pins], .agg #[.string x.key, .int .i64 x.st, .slice r2.ha x.hs.length r2.hc, .slice r2.ba x.bl.length r2.bc, .int .i64 x.t, .int .i64 x.g, .int .i64 x.l, .int .i64 x.s, .int .i64 x.e, .bool x.b1, .bool x.b2, .slice r2.ta x.ts.length r2.tc, .int .i64 x.pins]] (grow (redrawn wr d) os) fun e w'' => e = .returned (.bool true) ∧ ∃ p : Regrown, w'' = grow (redrawn wr p.d) p.os := fun d os => Calls.regrown_of (eqEntry_q _ x r1 r2 ft (I1.keep (below_regrown wr d os)) (I2.keep (below_regrown wr d os)))
      have g0 : (0 : Int) ≤ k := by omega
      have g : (k : Int) < n := by omega
      have x0 := cell_regrown P1.1
      have x1 := cell_regrown P1.2.1
      have x2 := cell_regrown P1.2.2.1
      have x3 := cell_regrown P1.2.2.2.1
      have x4 := cell_regrown P1.2.2.2.2.1
      have x5 := cell_regrown P1.2.2.2.2.2.1
      have x6 := cell_regrown P1.2.2.2.2.2.2.1
      have x7 := cell_regrown P1.2.2.2.2.2.2.2.1
      have x8 := cell_regrown P1.2.2.2.2.2.2.2.2.1
      have x9 := cell_regrown P1.2.2.2.2.2.2.2.2.2.1
      have x10 := cell_regrown P1.2.2.2.2.2.2.2.2.2.2.1
      have x11 := cell_regrown P1.2.2.2.2.2.2.2.2.2.2.2.1
      have x12 := cell_regrown P1.2.2.2.2.2.2.2.2.2.2.2.2
      have y0 := cell_regrown P2.1
      have y1 := cell_regrown P2.2.1
      have y2 := cell_regrown P2.2.2.1
      have y3 := cell_regrown P2.2.2.2.1
      have y4 := cell_regrown P2.2.2.2.2.1
      have y5 := cell_regrown P2.2.2.2.2.2.1
      have y6 := cell_regrown P2.2.2.2.2.2.2.1
      have y7 := cell_regrown P2.2.2.2.2.2.2.2.1
      have y8 := cell_regrown P2.2.2.2.2.2.2.2.2.1
      have y9 := cell_regrown P2.2.2.2.2.2.2.2.2.2.1
      have y10 := cell_regrown P2.2.2.2.2.2.2.2.2.2.2.1
      have y11 := cell_regrown P2.2.2.2.2.2.2.2.2.2.2.2.1
      have y12 := cell_regrown P2.2.2.2.2.2.2.2.2.2.2.2.2
      clear hr hr2 P1 P2 I1 I2 ft
      obtain ⟨key, st, hs, bl, t, gg, li, s, e, bb1, bb2, ts, pins⟩ := x
      obtain ⟨ha1, hc1, ba1, bc1, ta1, tc1⟩ := r1
      obtain ⟨ha2, hc2, ba2, bc2, ta2, tc2⟩ := r2
      simp only at x0 x1 x2 x3 x4 x5 x6 x7 x8 x9 x10 x11 x12 y0 y1 y2 y3 y4 y5 y6 y7 y8 y9 y10 y11 y12 cE
      generalize hs.length = hl at *
      generalize bl.length = bn at *
      generalize ts.length = tn at *
      go_wp2_with fail
      refine wp_region_quiet_below (by kernel_rfl) (by kernel_rfl) ?_
      repeat (go_big_quiet_step ((go_at_call 12; exact cE _ _)))
      refine wpQuiet_nil ?_
      intro w2 hw2
      have hbb : Below w.heap.size w w2 := by
        obtain ⟨⟨d, os⟩, rfl⟩ := hw2
        exact hb.trans ((below_regrown wr d os).mono hb.size)
      clear x0 x1 x2 x3 x4 x5 x6 x7 x8 x9 x10 x11 x12 y0 y1 y2 y3 y4 y5 y6 y7 y8 y9 y10 y11 y12 cE hw2 hb
      go_wp2_with fail
      go_roundw
      case rel => exact ⟨k + 1, by omega, by go_num, hbb⟩
      case measure => simp [intOf]; omega
    · go_wp2_with fail
      go_ret
      exact ⟨rfl, hb⟩
theorem eqEntryS_same (w : World) (a1 a2 : Option Addr) (c1 c2 : Nat) (l m : List (Ent × EntR)) (hl : l.length ≤ 1048576) (hf : ∀ q ∈ l, EntFit q.1) (hm : l.map Prod.fst = m.map Prod.fst) (h1 : EntsIn w a1 l) (h2 : EntsIn w a2 m) :
    Calls Tryd.prog 56 #[.slice a1 l.length c1, .slice a2 l.length c2] w fun e w' => e = .returned (.bool true) ∧ Below w.heap.size w w' := by
  rcases h1 with rfl | ⟨b, o, rfl, h1⟩
  · exact eqEntryS_none w _ _ _ _
  · rcases h2 with rfl | ⟨b2, o2, rfl, h2⟩
    · have : l = [] := by simpa using hm
      subst this
      exact eqEntryS_none w _ _ _ _
    · exact eqEntryS_at w b o b2 o2 c1 c2 l m _ rfl hl hf hm h1 h2
end Go.Proofs.YtelbddgdaibolaaDoor
/-
  Stores, handed over by the laws: room, copies, comparisons.
-/
namespace Go.Proofs.YtelbddgdaibolaaDoor
open Go.ChangeShapes Go.WideShapes Go.ChangeAt Go.RowKit Go.Sort
theorem EntsMine.off1 {W : World} {G : Nat} {l : List (Ent × EntR)} (h : EntsMine W G l) {b i : Nat} (v : Value) (hne : b < G) : EntsMine (W.setCell ⟨b, i, none⟩ v) G l := by
  have ne : ∀ o : Nat, (⟨b, i, none⟩ : Addr) ≠ ⟨G, o, none⟩ := fun o q => by have := congrArg Addr.block q; simp only at this; omega
  exact ⟨fun i q hq j hj => by rw [World.cell?_setCell_other _ _ _ _ (ne _)]; exact h.cell i q hq j hj, fun o => by rw [World.frozen?_setCell]; exact h.free o, by simpa using h.lt, fun q hq => (h.own q hq).off1 v (Nat.lt_trans hne (h.up q hq)), h.up, h.pw⟩
def szSt (left : Int) (tl kl : List (Ent × EntR)) : Int := if szEL left tl < 0 then -1 else if szEL (szEL left tl) kl < 0 then -1 else szEL (szEL left tl) kl
theorem szEs_le : ∀ (l : List (Ent × EntR)) (c : Int), c ≤ 1048576 → ¬ szEs c l < 0 → szEs c l ≤ c ∧ ∀ q ∈ l, EntFit q.1
  | [], c, _, _ => ⟨Int.le_refl _, fun q hq => by simp at hq⟩
  | q :: l, c, hc, h => by
    unfold szEs at h ⊢
    by_cases d : szE c q.1.key q.1.hs q.1.bl q.1.ts < 0
    · rw [if_pos d] at h; omega
    · rw [if_neg d] at h ⊢
      have r := szE_room hc d
      have z := szEs_le l _ (by omega) h
      refine ⟨by omega, fun p hp => ?_⟩
      rcases List.mem_cons.1 hp with rfl | hp
      · exact ⟨r.2.1, r.2.2.1, r.2.2.2.1⟩
      · exact z.2 p hp
theorem szEL_room {l : List (Ent × EntR)} {left : Int} (hc : left ≤ 1048576) (h : ¬ szEL left l < 0) : szEL left l ≤ left ∧ l.length ≤ 1048576 ∧ ∀ q ∈ l, EntFit q.1 := by
  unfold szEL at h ⊢
  by_cases d : left - (l.length : Int) < 0
  · rw [if_pos d] at h; omega
  · rw [if_neg d] at h ⊢
    have z := szEs_le l _ (by omega) h
    exact ⟨by omega, by omega, z.2⟩
set_option maxHeartbeats 4000000 in
theorem szStore_any (w : World) (bu gu : Int) (ta ka : Option Addr) (tc kc : Nat) (tl kl : List (Ent × EntR)) (left : Int) (h0 : 0 ≤ left) (h1 : left ≤ 1048576) (hl : tl.length ≤ maxLen) (hk : kl.length ≤ maxLen) (hz : ∀ q ∈ tl, EntSm q.1) (hy : ∀ q ∈ kl, EntSm q.1) (ht : EntsIn w ta tl) (hq : EntsIn w ka kl) :
    Calls Tryd.prog 16 #[.agg #[.int .i64 bu, .int .i64 gu, .slice ta tl.length tc, .slice ka kl.length kc], .int .i64 left] w fun r w' => r = .returned (.int .i64 (szSt left tl kl)) ∧ Below w.heap.size w w' := by
  have HK : Hid (Below w.heap.size w (w.alloc (.cells #[.int .i64 bu, .int .i64 gu, .slice ta tl.length tc, .slice ka kl.length kc] 44)) ∧ S4 (w.alloc (.cells #[.int .i64 bu, .int .i64 gu, .slice ta tl.length tc, .slice ka kl.length kc] 44)) w.heap.size (.int .i64 bu) (.int .i64 gu) (.slice ta tl.length tc) (.slice ka kl.length kc)) := ⟨(Below.refl _ _).alloc (Nat.le_refl _) _, S4.new w _ _ _ _ _⟩
  have H1 : Hid (∀ X, Below w.heap.size w X → Calls Tryd.prog 47 #[.slice ta tl.length tc, .int .i64 left] X fun e w' => e = .returned (.int .i64 (szEL left tl)) ∧ Below X.heap.size X w') := fun X hb => szEntryS_any X ta tc tl hl (ht.keep hb) hz left h0 h1
  have H2 : Hid (∀ X, Below w.heap.size w X → 0 ≤ szEL left tl → Calls Tryd.prog 47 #[.slice ka kl.length kc, .int .i64 (szEL left tl)] X fun e w' => e = .returned (.int .i64 (szEL (szEL left tl) kl)) ∧ Below X.heap.size X w') := fun X hb h => szEntryS_any X ka kc kl hk (hq.keep hb) hy _ h (by have := (szEL_room h1 (show ¬ szEL left tl < 0 from by omega)).1; omega)
  obtain ⟨Z, hZ⟩ : ∃ Z, szSt left tl kl = Z := ⟨_, rfl⟩
  rw [hZ]
  unfold szSt at hZ
  generalize szEL (szEL left tl) kl = z2 at *
  generalize szEL left tl = z1 at *
  clear ht hq hz hy hl hk
  generalize tl.length = tn at *
  generalize kl.length = kn at *
  have HZ : Hid (_ = Z) := hZ
  clear hZ
  have q2 := HK.out.2.c2
  go_enter Tryd.func16, Tryd.ntmps16
  go_wp2_with fail
  refine (H1.out _ HK.out.1).mono ?_
  rintro r w1 ⟨rfl, hb1⟩
  have K1 : Hid (Below w.heap.size w w1 ∧ S4 w1 w.heap.size (.int .i64 bu) (.int .i64 gu) (.slice ta tn tc) (.slice ka kn kc)) := ⟨HK.out.1.trans (hb1.mono HK.out.1.size), HK.out.2.keep hb1⟩
  clear hb1 q2 HK
  by_cases c1 : z1 < 0
  · have HR : Hid (-1 = Z) := by have := HZ.out; rw [if_pos c1] at this; exact this
    clear HZ
    go_wp2_with fail
    go_ret
    exact ⟨ret_int HR.out, K1.out.1⟩
  have HR : Hid ((if z2 < 0 then -1 else z2) = Z) := by have := HZ.out; rw [if_neg c1] at this; exact this
  clear HZ
  have q3 := K1.out.2.c3
  go_wp2_with fail
  refine (H2.out _ K1.out.1 (by omega)).mono ?_
  rintro r w2 ⟨rfl, hb2⟩
  have HB2 : Hid (Below w.heap.size w w2) := K1.out.1.trans (hb2.mono K1.out.1.size)
  clear hb2 q3 K1 H1 H2
  by_cases c2 : z2 < 0
  · have HS : Hid (-1 = Z) := by have := HR.out; rw [if_pos c2] at this; exact this
    clear HR
    go_wp2_with fail
    go_ret
    exact ⟨ret_int HS.out, HB2.out⟩
  · have HS : Hid (z2 = Z) := by have := HR.out; rw [if_neg c2] at this; exact this
    clear HR
    go_wp2_with fail
    go_ret
    exact ⟨ret_int HS.out, HB2.out⟩
/-- A store of one's own: its two lists, apart. -/
structure StoMine (W : World) (G1 G2 : Nat) (tl kl : List (Ent × EntR)) : Prop where
  t : EntsMine W G1 tl
  k : EntsMine W G2 kl
  lt : G1 < G2
  up : ∀ q ∈ tl, blk q.2.ta < G2
theorem StoMine.keep {W W' : World} {G1 G2 : Nat} {tl kl : List (Ent × EntR)} (h : StoMine W G1 G2 tl kl) (hb : Below W.heap.size W W') : StoMine W' G1 G2 tl kl := ⟨h.t.keep hb, h.k.keep hb, h.lt, h.up⟩
set_option maxHeartbeats 8000000 in
theorem toStore_any (w : World) (bu gu : Int) (ta ka : Option Addr) (tc kc : Nat) (tl kl : List (Ent × EntR)) (hl : tl.length ≤ 1048576) (hk : kl.length ≤ 1048576) (hz : ∀ q ∈ tl, EntFit q.1) (hy : ∀ q ∈ kl, EntFit q.1) (ht : EntsIn w ta tl) (hq : EntsIn w ka kl) :
    Calls Tryd.prog 18 #[.agg #[.int .i64 bu, .int .i64 gu, .slice ta tl.length tc, .slice ka kl.length kc]] w fun ee w' => (∃ G1 G2 tl' kl', ee = .returned (.agg #[.int .i64 bu, .int .i64 gu, .slice (some ⟨G1, 0, none⟩) tl.length tl.length, .slice (some ⟨G2, 0, none⟩) kl.length kl.length]) ∧ tl'.map Prod.fst = tl.map Prod.fst ∧ kl'.map Prod.fst = kl.map Prod.fst ∧ StoMine w' G1 G2 tl' kl' ∧ w.heap.size ≤ G1) ∧ Below w.heap.size w w' := by
  obtain ⟨W, hW⟩ : ∃ W, W = (((w.alloc (.cells #[.int .i64 bu, .int .i64 gu, .slice ta tl.length tc, .slice ka kl.length kc] 44)).alloc (.cells #[.int .i64 0, .int .i64 0, .slice none 0 0, .slice none 0 0] 49)).alloc (.cells #[.int .i64 bu, .int .i64 gu, .slice none 0 0, .slice none 0 0] 49)) := ⟨_, rfl⟩
  have HW : Hid (W = (((w.alloc (.cells #[.int .i64 bu, .int .i64 gu, .slice ta tl.length tc, .slice ka kl.length kc] 44)).alloc (.cells #[.int .i64 0, .int .i64 0, .slice none 0 0, .slice none 0 0] 49)).alloc (.cells #[.int .i64 bu, .int .i64 gu, .slice none 0 0, .slice none 0 0] 49))) := hW
  have bW : Below w.heap.size w W := by rw [hW]; exact (((Below.refl _ _).alloc (Nat.le_refl _) _).alloc (by simp) _).alloc (by simp; omega) _
  have hsz : W.heap.size = w.heap.size + 3 := by rw [hW]; simp
  have f2 : S4 W (w.heap.size + 2) (.int .i64 bu) (.int .i64 gu) (.slice none 0 0) (.slice none 0 0) := by
    rw [hW]
    have := S4.new ((w.alloc (.cells #[.int .i64 bu, .int .i64 gu, .slice ta tl.length tc, .slice ka kl.length kc] 44)).alloc (.cells #[.int .i64 0, .int .i64 0, .slice none 0 0, .slice none 0 0] 49)) (.int .i64 bu) (.int .i64 gu) (.slice none 0 0) (.slice none 0 0) 49
    simpa using this
  have f1 : S4 W (w.heap.size + 1) (.int .i64 0) (.int .i64 0) (.slice none 0 0) (.slice none 0 0) := by
    rw [hW]
    have := (S4.new (w.alloc (.cells #[.int .i64 bu, .int .i64 gu, .slice ta tl.length tc, .slice ka kl.length kc] 44)) (.int .i64 0) (.int .i64 0) (.slice none 0 0) (.slice none 0 0) 49).keep ((Below.refl _ _).alloc (Nat.le_refl _) (.cells #[.int .i64 bu, .int .i64 gu, .slice none 0 0, .slice none 0 0] 49))
    simpa using this
  have f0 : S4 W w.heap.size (.int .i64 bu) (.int .i64 gu) (.slice ta tl.length tc) (.slice ka kl.length kc) := by
    rw [hW]
    exact ((S4.new w (.int .i64 bu) (.int .i64 gu) (.slice ta tl.length tc) (.slice ka kl.length kc) 44).keep ((Below.refl _ _).alloc (Nat.le_refl _) _)).keep ((Below.refl _ _).alloc (Nat.le_refl _) _)
  have K0 : Hid (Below w.heap.size w W ∧ S4 W w.heap.size (.int .i64 bu) (.int .i64 gu) (.slice ta tl.length tc) (.slice ka kl.length kc) ∧ S4 W (w.heap.size + 1) (.int .i64 0) (.int .i64 0) (.slice none 0 0) (.slice none 0 0) ∧ S4 W (w.heap.size + 2) (.int .i64 bu) (.int .i64 gu) (.slice none 0 0) (.slice none 0 0) ∧ W.heap.size = w.heap.size + 3) := ⟨bW, f0, f1, f2, hsz⟩
  have C1 : Hid (Calls Tryd.prog 50 #[.slice ta tl.length tc] W fun e w' => e = .returned (.slice (some ⟨w.heap.size + 3, 0, none⟩) tl.length tl.length) ∧ (∃ l', l'.map Prod.fst = tl.map Prod.fst ∧ EntsMine w' (w.heap.size + 3) l') ∧ Below W.heap.size W w') := by
    have := toEntryS_any W ta tc tl hl (ht.keep bW) hz
    rw [hsz] at this ⊢
    exact this
  have C2 : Hid (∀ X, Below w.heap.size w X → Calls Tryd.prog 50 #[.slice ka kl.length kc] X fun e w' => e = .returned (.slice (some ⟨X.heap.size, 0, none⟩) kl.length kl.length) ∧ (∃ l', l'.map Prod.fst = kl.map Prod.fst ∧ EntsMine w' X.heap.size l') ∧ Below X.heap.size X w') := fun X hb => toEntryS_any X ka kc kl hk (hq.keep hb) hy
  clear hW bW f0 f1 f2 hsz ht hq hz hy hl hk
  generalize tl.map Prod.fst = tm at *
  generalize kl.map Prod.fst = km at *
  generalize tl.length = tn at *
  generalize kl.length = kn at *
  go_enter Tryd.func18, Tryd.ntmps18
  go_wp2_with fail
  rw [← HW.out]
  refine C1.out.mono ?_
  rintro r w1 ⟨rfl, ⟨tl', et, mt⟩, hb1⟩
  have hsz1 : w.heap.size + 3 ≤ w1.heap.size := by have := hb1.size; rw [K0.out.2.2.2.2] at this; exact this
  obtain ⟨V, hV⟩ : ∃ V, V = w1.setCell ⟨w.heap.size + 2, 2, none⟩ (.slice (some ⟨w.heap.size + 3, 0, none⟩) tn tn) := ⟨_, rfl⟩
  have HV : Hid (V = w1.setCell ⟨w.heap.size + 2, 2, none⟩ (.slice (some ⟨w.heap.size + 3, 0, none⟩) tn tn)) := hV
  have K1 : Hid (Below w.heap.size w V ∧ S4 V w.heap.size (.int .i64 bu) (.int .i64 gu) (.slice ta tn tc) (.slice ka kn kc) ∧ S4 V (w.heap.size + 1) (.int .i64 0) (.int .i64 0) (.slice none 0 0) (.slice none 0 0) ∧ S4 V (w.heap.size + 2) (.int .i64 bu) (.int .i64 gu) (.slice (some ⟨w.heap.size + 3, 0, none⟩) tn tn) (.slice none 0 0) ∧ w.heap.size + 3 ≤ V.heap.size ∧ EntsMine V (w.heap.size + 3) tl') := by
    rw [hV]
    exact ⟨(K0.out.1.trans (hb1.mono K0.out.1.size)).setCell (by simp) _, (K0.out.2.1.keep hb1).off (by omega), (K0.out.2.2.1.keep hb1).off (by omega), (K0.out.2.2.2.1.keep hb1).set2 _, by simpa using hsz1, mt.off1 _ (by omega)⟩
  have k2 := (K0.out.2.2.2.1.keep hb1).c2
  have k2f := (K0.out.2.2.2.1.keep hb1).fr 2
  have q3 := (K0.out.2.1.keep hb1).c3
  clear hV hb1 K0 C1 HW mt hsz1
  go_wp2_with fail
  rw [← HV.out]
  clear HV k2 k2f
  refine (C2.out _ K1.out.1).mono ?_
  rintro r w2 ⟨rfl, ⟨kl', ek, mk⟩, hb2⟩
  have hsz2 := hb2.size
  have hszV := K1.out.2.2.2.2.1
  have z1 := K1.out.2.2.1.keep hb2
  have z2 := K1.out.2.2.2.1.keep hb2
  have m1 := K1.out.2.2.2.2.2.keep hb2
  have hup : ∀ q ∈ tl', blk q.2.ta < V.heap.size := fun q hq => (K1.out.2.2.2.2.2.own q hq).lt
  have bb := K1.out.1.trans (hb2.mono K1.out.1.size)
  obtain ⟨G2, hG⟩ : ∃ G, V.heap.size = G := ⟨_, rfl⟩
  rw [hG] at mk hup hszV ⊢
  have FIN : Hid (∀ x3 y0 y1 y2 y3, StoMine (((((w2.setCell ⟨w.heap.size + 2, 3, none⟩ x3).setCell ⟨w.heap.size + 1, 0, none⟩ y0).setCell ⟨w.heap.size + 1, 1, none⟩ y1).setCell ⟨w.heap.size + 1, 2, none⟩ y2).setCell ⟨w.heap.size + 1, 3, none⟩ y3) (w.heap.size + 3) G2 tl' kl' ∧ Below w.heap.size w (((((w2.setCell ⟨w.heap.size + 2, 3, none⟩ x3).setCell ⟨w.heap.size + 1, 0, none⟩ y0).setCell ⟨w.heap.size + 1, 1, none⟩ y1).setCell ⟨w.heap.size + 1, 2, none⟩ y2).setCell ⟨w.heap.size + 1, 3, none⟩ y3)) := by
    intro x3 y0 y1 y2 y3
    refine ⟨⟨((((m1.off1 _ (by omega)).off1 _ (by omega)).off1 _ (by omega)).off1 _ (by omega)).off1 _ (by omega), ((((mk.off1 _ (by omega)).off1 _ (by omega)).off1 _ (by omega)).off1 _ (by omega)).off1 _ (by omega), ?_, hup⟩, ((((bb.setCell (by simp) _).setCell (by simp) _).setCell (by simp) _).setCell (by simp) _).setCell (by simp) _⟩
    have := m1.lt
    have := K1.out.2.2.2.2.2.lt
    omega
  have ET : Hid (tl'.map Prod.fst = tm ∧ kl'.map Prod.fst = km) := ⟨et, ek⟩
  have a3 := z2.c3
  have a0 := z2.c0
  have a1 := z2.c1
  have a2 := z2.c2
  have af := z2.fr 3
  have r0 := z1.c0
  have r1 := z1.c1
  have r2 := z1.c2
  have r3 := z1.c3
  have rf0 := z1.fr 0
  have rf1 := z1.fr 1
  have rf2 := z1.fr 2
  have rf3 := z1.fr 3
  clear hb2 hsz2 mk m1 hup bb z1 z2 K1 C2 q3 et ek hszV hG
  go_wp2_with fail
  exact bodyPost_ret (v := .agg #[.int .i64 bu, .int .i64 gu, .slice (some ⟨w.heap.size + 3, 0, none⟩) tn tn, .slice (some ⟨G2, 0, none⟩) kn kn]) (by simp [results, Tryd.results18, go_sem, r0, r1, r2, r3]) rfl ⟨⟨_, _, tl', kl', rfl, ET.out.1, ET.out.2, (FIN.out _ _ _ _ _).1, by omega⟩, (FIN.out _ _ _ _ _).2⟩
set_option maxHeartbeats 4000000 in
theorem eqStore_same (w : World) (bu gu : Int) (ta1 ta2 ka1 ka2 : Option Addr) (tc1 tc2 kc1 kc2 : Nat) (tl tm kl km : List (Ent × EntR)) (hl : tl.length ≤ 1048576) (hk : kl.length ≤ 1048576) (hf : ∀ q ∈ tl, EntFit q.1) (hg : ∀ q ∈ kl, EntFit q.1) (et : tl.map Prod.fst = tm.map Prod.fst) (ek : kl.map Prod.fst = km.map Prod.fst) (h1 : EntsIn w ta1 tl) (h2 : EntsIn w ta2 tm) (h3 : EntsIn w ka1 kl) (h4 : EntsIn w ka2 km) :
    Calls Tryd.prog 20 #[.agg #[.int .i64 bu, .int .i64 gu, .slice ta1 tl.length tc1, .slice ka1 kl.length kc1], .agg #[.int .i64 bu, .int .i64 gu, .slice ta2 tl.length tc2, .slice ka2 kl.length kc2]] w fun r w' => r = .returned (.bool true) ∧ Below w.heap.size w w' := by
  have H1 : Hid (∀ X, Below w.heap.size w X → Calls Tryd.prog 56 #[.slice ta1 tl.length tc1, .slice ta2 tl.length tc2] X fun e w' => e = .returned (.bool true) ∧ Below X.heap.size X w') := fun X hb => eqEntryS_same X ta1 ta2 tc1 tc2 tl tm hl hf et (h1.keep hb) (h2.keep hb)
  have H2 : Hid (∀ X, Below w.heap.size w X → Calls Tryd.prog 56 #[.slice ka1 kl.length kc1, .slice ka2 kl.length kc2] X fun e w' => e = .returned (.bool true) ∧ Below X.heap.size X w') := fun X hb => eqEntryS_same X ka1 ka2 kc1 kc2 kl km hk hg ek (h3.keep hb) (h4.keep hb)
  clear h1 h2 h3 h4 hf hg et ek hl hk
  generalize tl.length = tn at *
  generalize kl.length = kn at *
  obtain ⟨V, hV⟩ : ∃ X, X = (w.alloc (.cells #[.int .i64 bu, .int .i64 gu, .slice ta1 tn tc1, .slice ka1 kn kc1] 49)).alloc (.cells #[.int .i64 bu, .int .i64 gu, .slice ta2 tn tc2, .slice ka2 kn kc2] 49) := ⟨_, rfl⟩
  have HV : Hid (V = (w.alloc (.cells #[.int .i64 bu, .int .i64 gu, .slice ta1 tn tc1, .slice ka1 kn kc1] 49)).alloc (.cells #[.int .i64 bu, .int .i64 gu, .slice ta2 tn tc2, .slice ka2 kn kc2] 49)) := hV
  have K0 : Hid (Below w.heap.size w V ∧ S4 V w.heap.size (.int .i64 bu) (.int .i64 gu) (.slice ta1 tn tc1) (.slice ka1 kn kc1) ∧ S4 V (w.heap.size + 1) (.int .i64 bu) (.int .i64 gu) (.slice ta2 tn tc2) (.slice ka2 kn kc2)) := by
    rw [hV]
    refine ⟨((Below.refl _ _).alloc (Nat.le_refl _) _).alloc (by simp) _, (S4.new w _ _ _ _ _).keep ((Below.refl _ _).alloc (Nat.le_refl _) _), ?_⟩
    have := S4.new (w.alloc (.cells #[.int .i64 bu, .int .i64 gu, .slice ta1 tn tc1, .slice ka1 kn kc1] 49)) (.int .i64 bu) (.int .i64 gu) (.slice ta2 tn tc2) (.slice ka2 kn kc2) 49
    simpa using this
  clear hV
  go_enter Tryd.func20, Tryd.ntmps20
  go_wp2_with fail
  rw [← HV.out]
  clear HV
  refine (H1.out _ K0.out.1).mono ?_
  rintro r w1 ⟨rfl, hb1⟩
  have B1 : Hid (Below w.heap.size w w1) := K0.out.1.trans (hb1.mono K0.out.1.size)
  have k1 := (K0.out.2.1.keep hb1).c3
  have k2 := (K0.out.2.2.keep hb1).c3
  clear hb1 K0 H1
  go_wp2_with fail
  refine (H2.out _ B1.out).mono ?_
  rintro r w2 ⟨rfl, hb2⟩
  have B2 : Hid (Below w.heap.size w w2) := B1.out.trans (hb2.mono B1.out.size)
  clear hb2 k1 k2 H2 B1
  go_wp2_with fail
  go_ret
  exact ⟨rfl, B2.out⟩
end Go.Proofs.YtelbddgdaibolaaDoor
/-
  Five cells that may be written.
-/
namespace Go.Proofs.YtelbddgdaibolaaDoor
open Go.ChangeShapes Go.WideShapes Go.ChangeAt Go.RowKit
structure S5 (w : World) (b : Nat) (v0 v1 v2 v3 v4 : Value) : Prop where
  c0 : w.cell? ⟨b, 0, none⟩ = some v0
  c1 : w.cell? ⟨b, 1, none⟩ = some v1
  c2 : w.cell? ⟨b, 2, none⟩ = some v2
  c3 : w.cell? ⟨b, 3, none⟩ = some v3
  c4 : w.cell? ⟨b, 4, none⟩ = some v4
  fr : ∀ o, w.frozen? ⟨b, o, none⟩ = false
  lt : b < w.heap.size
section
variable {w w' : World} {b : Nat} {v0 v1 v2 v3 v4 : Value}
theorem S5.keep (k : S5 w b v0 v1 v2 v3 v4) (hb : Below w.heap.size w w') : S5 w' b v0 v1 v2 v3 v4 :=
  ⟨by rw [hb.cell (p := ⟨b, 0, none⟩) k.lt]; exact k.c0, by rw [hb.cell (p := ⟨b, 1, none⟩) k.lt]; exact k.c1, by rw [hb.cell (p := ⟨b, 2, none⟩) k.lt]; exact k.c2, by rw [hb.cell (p := ⟨b, 3, none⟩) k.lt]; exact k.c3, by rw [hb.cell (p := ⟨b, 4, none⟩) k.lt]; exact k.c4, fun o => by rw [hb.frozen (p := ⟨b, o, none⟩) k.lt]; exact k.fr o, Nat.lt_of_lt_of_le k.lt hb.size⟩
theorem S5.new (w : World) (v0 v1 v2 v3 v4 : Value) (t : TypeId) : S5 (w.alloc (.cells #[v0, v1, v2, v3, v4] t)) w.heap.size v0 v1 v2 v3 v4 := ⟨by simp, by simp, by simp, by simp, by simp, fun o => by simp, by simp⟩
theorem S5.off (k : S5 w b v0 v1 v2 v3 v4) {B i : Nat} {x : Value} (h : B ≠ b) : S5 (w.setCell ⟨B, i, none⟩ x) b v0 v1 v2 v3 v4 := by
  have ne : ∀ o : Nat, (⟨B, i, none⟩ : Addr) ≠ ⟨b, o, none⟩ := fun o q => h (congrArg Addr.block q)
  exact ⟨by rw [World.cell?_setCell_other _ _ _ _ (ne _)]; exact k.c0, by rw [World.cell?_setCell_other _ _ _ _ (ne _)]; exact k.c1, by rw [World.cell?_setCell_other _ _ _ _ (ne _)]; exact k.c2, by rw [World.cell?_setCell_other _ _ _ _ (ne _)]; exact k.c3, by rw [World.cell?_setCell_other _ _ _ _ (ne _)]; exact k.c4, fun o => by rw [World.frozen?_setCell]; exact k.fr o, by simpa using k.lt⟩
theorem S5.set0 (k : S5 w b v0 v1 v2 v3 v4) (x : Value) : S5 (w.setCell ⟨b, 0, none⟩ x) b x v1 v2 v3 v4 :=
  ⟨World.cell?_setCell_same _ _ _ k.c0, by rw [World.cell?_setCell_other _ _ _ _ (by intro q; have := congrArg Addr.off q; simp at this)]; exact k.c1, by rw [World.cell?_setCell_other _ _ _ _ (by intro q; have := congrArg Addr.off q; simp at this)]; exact k.c2, by rw [World.cell?_setCell_other _ _ _ _ (by intro q; have := congrArg Addr.off q; simp at this)]; exact k.c3, by rw [World.cell?_setCell_other _ _ _ _ (by intro q; have := congrArg Addr.off q; simp at this)]; exact k.c4, fun o => by rw [World.frozen?_setCell]; exact k.fr o, by simpa using k.lt⟩
theorem S5.set1 (k : S5 w b v0 v1 v2 v3 v4) (x : Value) : S5 (w.setCell ⟨b, 1, none⟩ x) b v0 x v2 v3 v4 :=
  ⟨by rw [World.cell?_setCell_other _ _ _ _ (by intro q; have := congrArg Addr.off q; simp at this)]; exact k.c0, World.cell?_setCell_same _ _ _ k.c1, by rw [World.cell?_setCell_other _ _ _ _ (by intro q; have := congrArg Addr.off q; simp at this)]; exact k.c2, by rw [World.cell?_setCell_other _ _ _ _ (by intro q; have := congrArg Addr.off q; simp at this)]; exact k.c3, by rw [World.cell?_setCell_other _ _ _ _ (by intro q; have := congrArg Addr.off q; simp at this)]; exact k.c4, fun o => by rw [World.frozen?_setCell]; exact k.fr o, by simpa using k.lt⟩
theorem S5.set2 (k : S5 w b v0 v1 v2 v3 v4) (x : Value) : S5 (w.setCell ⟨b, 2, none⟩ x) b v0 v1 x v3 v4 :=
  ⟨by rw [World.cell?_setCell_other _ _ _ _ (by intro q; have := congrArg Addr.off q; simp at this)]; exact k.c0, by rw [World.cell?_setCell_other _ _ _ _ (by intro q; have := congrArg Addr.off q; simp at this)]; exact k.c1, World.cell?_setCell_same _ _ _ k.c2, by rw [World.cell?_setCell_other _ _ _ _ (by intro q; have := congrArg Addr.off q; simp at this)]; exact k.c3, by rw [World.cell?_setCell_other _ _ _ _ (by intro q; have := congrArg Addr.off q; simp at this)]; exact k.c4, fun o => by rw [World.frozen?_setCell]; exact k.fr o, by simpa using k.lt⟩
theorem S5.set3 (k : S5 w b v0 v1 v2 v3 v4) (x : Value) : S5 (w.setCell ⟨b, 3, none⟩ x) b v0 v1 v2 x v4 :=
  ⟨by rw [World.cell?_setCell_other _ _ _ _ (by intro q; have := congrArg Addr.off q; simp at this)]; exact k.c0, by rw [World.cell?_setCell_other _ _ _ _ (by intro q; have := congrArg Addr.off q; simp at this)]; exact k.c1, by rw [World.cell?_setCell_other _ _ _ _ (by intro q; have := congrArg Addr.off q; simp at this)]; exact k.c2, World.cell?_setCell_same _ _ _ k.c3, by rw [World.cell?_setCell_other _ _ _ _ (by intro q; have := congrArg Addr.off q; simp at this)]; exact k.c4, fun o => by rw [World.frozen?_setCell]; exact k.fr o, by simpa using k.lt⟩
theorem S5.set4 (k : S5 w b v0 v1 v2 v3 v4) (x : Value) : S5 (w.setCell ⟨b, 4, none⟩ x) b v0 v1 v2 v3 x :=
  ⟨by rw [World.cell?_setCell_other _ _ _ _ (by intro q; have := congrArg Addr.off q; simp at this)]; exact k.c0, by rw [World.cell?_setCell_other _ _ _ _ (by intro q; have := congrArg Addr.off q; simp at this)]; exact k.c1, by rw [World.cell?_setCell_other _ _ _ _ (by intro q; have := congrArg Addr.off q; simp at this)]; exact k.c2, by rw [World.cell?_setCell_other _ _ _ _ (by intro q; have := congrArg Addr.off q; simp at this)]; exact k.c3, World.cell?_setCell_same _ _ _ k.c4, fun o => by rw [World.frozen?_setCell]; exact k.fr o, by simpa using k.lt⟩
end
end Go.Proofs.YtelbddgdaibolaaDoor
