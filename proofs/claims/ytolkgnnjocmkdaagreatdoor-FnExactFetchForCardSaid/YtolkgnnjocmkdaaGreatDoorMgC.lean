/-
  Texts of one claim, one behind the other.
-/
import Derived.BigQuiet
import Derived.Deep.RegionWith
import Derived.Laws.CopyRow
import Derived.Laws.NewBlocks
import Derived.Lib.AppendZerosOnto
import Derived.Lib.LaidTab
import Derived.Lib.Overlaps
import Derived.Lib.QuietBelow
import Derived.Lib.SliceRun
import Derived.Lib.Walk
import Derived.MakeChecks
import Derived.Maps.OwnSet
import Derived.StillTailTactics
import Derived.Stop.LaidErr
import Derived.Test.YtolkgnnjocmkdaaGreatDoorRows
import Derived.Test.YtolkgnnjocmkdaaGreatDoorMgB
/-
  What the model's IsWord answers, and hasOnly over the table.
-/
namespace Go.Proofs.YtolkgnnjocmkdaaGreatDoor
open Go.ChangeShapes Go.WideShapes Go.ChangeAt Go.RowKit
set_option maxHeartbeats 400000 in
theorem specIsWord_size (s : ByteArray) (w : World) (h : s.size < 1 ∨ 64 < s.size) :
    Calls Tryz.prog 130 #[.string s] w fun e w' => e = .returned (.bool false) ∧ w' = w := by
  rcases h with h | h
  · have hh : (s.size : Int) < 1 := by omega
    go_enter Tryz.func130, Tryz.ntmps130
    go_wp2
    go_ret
    exact ⟨rfl, rfl⟩
  · have hh : (64 : Int) < s.size := by omega
    have h1 : ¬ (s.size : Int) < 1 := by omega
    go_enter Tryz.func130, Tryz.ntmps130
    go_wp2
    go_ret
    exact ⟨rfl, rfl⟩
set_option maxHeartbeats 1000000 in
theorem specIsWord_mid (s : ByteArray) (w : World) (h1 : 1 ≤ s.size) (h2 : s.size ≤ 64) :
    Calls Tryz.prog 130 #[.string s] w fun e w' => e = .returned (.bool (allW s.data.toList)) ∧ w' = w := by
  have g1 : ¬ (s.size : Int) < 1 := by omega
  have g2 : ¬ (64 : Int) < s.size := by omega
  go_enter Tryz.func130, Tryz.ntmps130
  go_wp2
  go_loop [3] (fun i => ∃ k : Nat, k ≤ s.size ∧ i = .int .i64 k ∧ allW (s.data.toList.take k) = true) (fun i => s.size - (intOf i).toNat)
  case atStart => exact ⟨0, Nat.zero_le _, rfl, rfl⟩
  case round =>
    obtain ⟨k, hk, rfl, hall⟩ := hrel
    by_cases hlt : k < s.size
    · have hb : ((s[k].toNat : Nat) : Int) < 256 := by have := s[k].toNat_lt; omega
      cases hw : wordI (s[k].toNat : Int)
      · have HN : Hid (allW s.data.toList = false) := allW_not s k hlt hw
        have HW : Hid (wordI (s[k].toNat : Int) = false) := hw
        clear hall hw
        go_wp2_with fail
        refine (wordByte_any _ _ (by omega) hb).mono ?_
        rintro e w' ⟨rfl, rfl⟩
        rw [HW.out]
        go_wp2
        go_ret
        exact ⟨ret_bool HN.out.symm, rfl⟩
      · have HA : Hid (allW (s.data.toList.take (k + 1)) = true) := by
          show _ = _
          rw [take_snoc s k hlt, allW_snoc, hall, hw]; rfl
        have HW : Hid (wordI (s[k].toNat : Int) = true) := hw
        clear hall hw
        go_wp2_with fail
        refine (wordByte_any _ _ (by omega) hb).mono ?_
        rintro e w' ⟨rfl, rfl⟩
        rw [HW.out]
        go_wp2
        go_round
        case rel => exact ⟨k + 1, by omega, by go_num, HA.out⟩
        case measure => simp [intOf]; omega
    · have ek : s.data.toList.take k = s.data.toList := List.take_of_length_le (by simp; omega)
      rw [ek] at hall
      have HN : Hid (allW s.data.toList = true) := hall
      clear ek hall
      go_wp2
      go_ret
      exact ⟨ret_bool HN.out.symm, rfl⟩
theorem specIsWord_any (s : ByteArray) (w : World) :
    Calls Tryz.prog 130 #[.string s] w fun e w' => e = .returned (.bool (wordS s)) ∧ w' = w := by
  by_cases c : s.size < 1 ∨ 64 < s.size
  · have h : wordS s = false := by
      rcases c with c | c
      · exact wordS_short s c
      · exact wordS_long s c
    rw [h]; exact specIsWord_size s w c
  · rw [wordS_mid s (by omega) (by omega)]
    exact specIsWord_mid s w (by omega) (by omega)
set_option maxHeartbeats 1000000 in
theorem hasOnly_any (s : ByteArray) (cs : Array Value) (w : World) (hs : s.size ≤ 64) (hcs : ∀ i, i < 128 → cs[i]? = some (.bool (wordI (i : Int)))) :
    Calls Tryz.prog 156 #[.string s, .agg cs] w fun e w' => e = .returned (.bool (allW s.data.toList)) ∧ Below w.heap.size w w' := by
  have hcell : ∀ i, i < 128 → (w.alloc (.cells cs 210)).cell? ⟨w.heap.size, i, none⟩ = some (.bool (wordI (i : Int))) := fun i hi => by
    rw [World.cell?_alloc_mark]; exact hcs i hi
  have HC : Hid (∀ i, i < 128 → (w.alloc (.cells cs 210)).cell? ⟨w.heap.size, i, none⟩ = some (.bool (wordI (i : Int)))) := hcell
  clear hcell hcs
  go_enter Tryz.func156, Tryz.ntmps156
  go_wp2
  go_loop [9] (fun i => ∃ k : Nat, k ≤ s.size ∧ i = .int .i64 k ∧ allW (s.data.toList.take k) = true) (fun i => s.size - (intOf i).toNat)
  case atStart => exact ⟨0, Nat.zero_le _, rfl, rfl⟩
  case round =>
    obtain ⟨k, hk, rfl, hall⟩ := hrel
    by_cases hlt : k < s.size
    · have hb : ((s[k].toNat : Nat) : Int) < 256 := by have := s[k].toNat_lt; omega
      by_cases hbig : 128 ≤ (s[k].toNat : Int)
      · have HN : Hid (allW s.data.toList = false) := allW_not s k hlt (wordI_big _ hbig)
        clear hall
        go_wp2
        go_ret
        exact ⟨ret_bool HN.out.symm, (Below.refl _ _).alloc (Nat.le_refl _) _⟩
      · have hc := HC.out s[k].toNat (by omega)
        cases hw : wordI (s[k].toNat : Int)
        · have HN : Hid (allW s.data.toList = false) := allW_not s k hlt hw
          rw [hw] at hc
          clear hall hw
          go_wp2
          go_ret
          exact ⟨ret_bool HN.out.symm, (Below.refl _ _).alloc (Nat.le_refl _) _⟩
        · have HA : Hid (allW (s.data.toList.take (k + 1)) = true) := by
            show _ = _
            rw [take_snoc s k hlt, allW_snoc, hall, hw]; rfl
          rw [hw] at hc
          clear hall hw
          go_wp2
          go_round
          case rel => exact ⟨k + 1, by omega, by go_num, HA.out⟩
          case measure => simp [intOf]; omega
    · have ek : s.data.toList.take k = s.data.toList := List.take_of_length_le (by simp; omega)
      rw [ek] at hall
      have HN : Hid (allW s.data.toList = true) := hall
      clear ek hall
      go_wp2
      go_ret
      exact ⟨ret_bool HN.out.symm, (Below.refl _ _).alloc (Nat.le_refl _) _⟩
end Go.Proofs.YtolkgnnjocmkdaaGreatDoor
/-
  A slice of bytes that the call itself grows: one byte more.
-/
namespace Go.Proofs.YtolkgnnjocmkdaaGreatDoor
open Go.ChangeShapes Go.WideShapes Go.ChangeAt Go.RowKit
theorem infoByteB : (Tryz.prog.info? 5).map (fun i => (i.zero, i.size, i.bytes)) = some (some (.int .u8 0), 1, 1) := by kernel_rfl
def bytesW (l : List UInt8) : List Value := l.map fun c => Value.int .u8 (c.toNat : Int)
/-- v, a slice that is not nil, holds the bytes l in a row of the call's own, from block base on. -/
structure OwnB (w : World) (base : Nat) (v : Value) (l : List UInt8) : Prop where
  own : w.ownsRow base 5 1 v l.length (bytesW l)
  nn : v ≠ .slice none 0 0
theorem own_geB {w : World} {base : Nat} {e : TypeId} {size : Nat} {v : Value} {n : Nat} {xs : List Value} (h : w.ownsRow base e size v n xs) (q : Nat) (hq : v.ownBlock = some q) : base ≤ q := by
  obtain ⟨_, h | ⟨g, c, cur, rfl, hg, _⟩⟩ := h
  · rw [h.1] at hq; cases hq
  · simp only [Value.ownBlock, Option.some.injEq] at hq; omega
theorem OwnB.text {w : World} {base : Nat} {v : Value} {l : List UInt8} (h : OwnB w base v l) :
    (convert 25 9 v).run Tryz.prog w = .ok (.string ⟨l.toArray⟩) w := by
  have h0 := h.own
  obtain ⟨_, hn | ⟨g, c, cur, rfl, hg, _⟩⟩ := h.own
  · exact absurd hn.1 h.nn
  · refine run_convert_bytes_back w 25 9 5 ⟨g, 0, none⟩ c l Tryz.underlying25 Tryz.underlying5 Tryz.underlying9 ?_
    intro j hj
    have := h0.cellAt j (by omega)
    have e : (⟨g, 0, none⟩ : Addr).add j = ⟨g, j, none⟩ := by unfold Addr.add; split <;> simp_all
    rw [e, this]
    simp [bytesW, hj]
/-- A slice literal of bytes, just laid. -/
theorem OwnB.made (w : World) (base : Nat) (hb : base ≤ w.heap.size) (l : List UInt8) (hl : l.length ≤ 1000000) : OwnB (w.alloc (.cells (bytesW l).toArray 5)) base (.slice (some ⟨w.heap.size, 0, none⟩) l.length l.length) l where
  own := ⟨by simp [bytesW], .inr ⟨w.heap.size, l.length, (bytesW l).toArray, rfl, hb, heap_alloc_new _ _, Nat.le_refl _, by unfold maxLen; omega, by simp [bytesW], by simp [bytesW, List.take_of_length_le]⟩⟩
  nn := by simp
theorem OwnB.below {w w' : World} {base : Nat} {v : Value} {l : List UInt8} (h : OwnB w base v l) (hb : Below w.heap.size w w') : OwnB w' base v l := by
  refine ⟨?_, h.nn⟩
  obtain ⟨h1, h2⟩ := h.own
  refine ⟨h1, ?_⟩
  rcases h2 with h2 | ⟨g, c, cur, e, hg, hh, hrest⟩
  · exact .inl h2
  · exact .inr ⟨g, c, cur, e, hg, by rw [hb.block g (Array.getElem?_eq_some_iff.1 hh).1]; exact hh, hrest⟩
/-- 'out = append(out, c)', the byte laid in a block of its own right ahead. -/
theorem wpList_append_byte {ops : Array Oper} {rest : List Oper} {o : Oper} {a : Act} {Q : Exit → Act → World → Prop} (w : World) (hgd : o.guard = none) (s x : Operand)
    (ho : o.op = .call { callee := .builtin .append, args := #[s, x], argTypes := #[25, 25] }) (base : Nat) (v : Value) (l : List UInt8) (z : Int) (c : UInt8)
    (hs : a.eval s = v) (hx : a.eval x = .slice (some ⟨w.heap.size, 0, none⟩) 1 1) (hown : OwnB w base v l) (hc : (c.toNat : Int) = z) (hl : l.length ≤ 1000000) (hbase : base ≤ w.heap.size)
    (h : ∀ v' w', OwnB w' base v' (l ++ [c]) → Below base w w' → w.heap.size ≤ w'.heap.size → wpList Tryz.prog ops Q rest (a.put o.dst v') w') :
    wpList Tryz.prog ops Q (o :: rest) a (w.alloc (.cells #[.int .u8 z] 5)) := by
  obtain ⟨i0, hi, hz0, hz1, hz2⟩ := info_parts infoByteB
  refine wpList_append_own _ hgd s x 25 ho base 5 i0 (.int .u8 0) 1 1 Tryz.underlying25 hi hz0 hz1 hz2 rfl (by decide) v l.length (bytesW l) hs (hown.own.alloc _) ⟨w.heap.size, 0, none⟩ 1 1 [.int .u8 z] hx rfl ?_ ?_ ?_ ?_ ?_ ?_
  · intro j u hj
    match j, hj with
    | 0, hj => simp at hj; subst hj; simp [Addr.add]
  · intro u hu; simp at hu; subst hu; rfl
  · unfold maxLen; omega
  · omega
  · simp; omega
  · intro v' w' h1 h2 h3
    have e : bytesW (l ++ [c]) = bytesW l ++ [Value.int .u8 z] := by simp [bytesW, hc]
    refine h v' w' ⟨by rw [e, List.length_append]; exact h1, fun hv => hown.nn (h3.1 hv).1⟩ ?_ ?_
    · exact ((Below.refl base w).alloc hbase _).grown h2 (by simp; omega) (fun q hq => own_geB hown.own q hq)
    · have hb := ((Below.refl 0 w).alloc (Nat.zero_le _) (.cells #[.int .u8 z] 5)).grown h2 (Nat.zero_le _) (fun q _ => Nat.zero_le _)
      exact hb.size
end Go.Proofs.YtolkgnnjocmkdaaGreatDoor
/-
  What the model's l2Plain and l2PlainText answer.
-/
namespace Go.Proofs.YtolkgnnjocmkdaaGreatDoor
open Go.ChangeShapes Go.WideShapes Go.ChangeAt Go.RowKit
set_option maxHeartbeats 400000 in
theorem plain_any (c : Int) (w : World) (h0 : 0 ≤ c) (h1 : c < 256) :
    Calls Tryz.prog 257 #[.int .u8 c] w fun e w' => e = .returned (.bool (plainI c)) ∧ w' = w := by
  by_cases e9 : c = 9
  · subst e9
    go_enter Tryz.func257, Tryz.ntmps257
    go_wp2
    go_ret
    exact ⟨rfl, rfl⟩
  · have d9 : (c == 9) = false := by simpa using e9
    by_cases a1 : 32 ≤ c
    · by_cases a2 : c ≤ 126
      · have d2 : decide (c ≤ 126) = true := by simpa using a2
        have HP : Hid (plainI c = true) := by show _ = _; simp [plainI, a1, a2]
        go_enter Tryz.func257, Tryz.ntmps257
        go_wp2
        go_ret
        exact ⟨ret_bool HP.out.symm, rfl⟩
      · have d2 : decide (c ≤ 126) = false := by simpa using a2
        have HP : Hid (plainI c = false) := by show _ = _; simp [plainI, e9]; omega
        go_enter Tryz.func257, Tryz.ntmps257
        go_wp2
        go_ret
        exact ⟨ret_bool HP.out.symm, rfl⟩
    · have HP : Hid (plainI c = false) := by show _ = _; simp [plainI, e9]; omega
      go_enter Tryz.func257, Tryz.ntmps257
      go_wp2
      go_ret
      exact ⟨ret_bool HP.out.symm, rfl⟩
set_option maxHeartbeats 1000000 in
theorem plainText_any (s : ByteArray) (w : World) (hs : s.size ≤ 1048576) :
    Calls Tryz.prog 212 #[.string s] w fun e w' => e = .returned (.bool (plainL s.data.toList)) ∧ w' = w := by
  go_enter Tryz.func212, Tryz.ntmps212
  go_wp2
  go_loop [3] (fun i => ∃ k : Nat, k ≤ s.size ∧ i = .int .i64 k ∧ plainL (s.data.toList.take k) = true) (fun i => s.size - (intOf i).toNat)
  case atStart => exact ⟨0, Nat.zero_le _, rfl, rfl⟩
  case round =>
    obtain ⟨k, hk, rfl, hall⟩ := hrel
    by_cases hlt : k < s.size
    · have hb : ((s[k].toNat : Nat) : Int) < 256 := by have := s[k].toNat_lt; omega
      cases hw : plainI (s[k].toNat : Int)
      · have HN : Hid (plainL s.data.toList = false) := plainL_not s k hlt hw
        have HW : Hid (plainI (s[k].toNat : Int) = false) := hw
        clear hall hw
        go_wp2_with fail
        refine (plain_any _ _ (by omega) hb).mono ?_
        rintro e w' ⟨rfl, rfl⟩
        rw [HW.out]
        go_wp2
        go_ret
        exact ⟨ret_bool HN.out.symm, rfl⟩
      · have HA : Hid (plainL (s.data.toList.take (k + 1)) = true) := by
          show _ = _
          rw [take_snoc s k hlt, plainL_snoc, hall, hw]; rfl
        have HW : Hid (plainI (s[k].toNat : Int) = true) := hw
        clear hall hw
        go_wp2_with fail
        refine (plain_any _ _ (by omega) hb).mono ?_
        rintro e w' ⟨rfl, rfl⟩
        rw [HW.out]
        go_wp2
        go_round
        case rel => exact ⟨k + 1, by omega, by go_num, HA.out⟩
        case measure => simp [intOf]; omega
    · have ek : s.data.toList.take k = s.data.toList := List.take_of_length_le (by simp; omega)
      rw [ek] at hall
      have HN : Hid (plainL s.data.toList = true) := hall
      clear ek hall
      go_wp2
      go_ret
      exact ⟨ret_bool HN.out.symm, rfl⟩
end Go.Proofs.YtolkgnnjocmkdaaGreatDoor
/-
  What the model's l1Trim answers.
-/
namespace Go.Proofs.YtolkgnnjocmkdaaGreatDoor
open Go.ChangeShapes Go.WideShapes Go.ChangeAt Go.RowKit
set_option maxHeartbeats 400000 in
theorem blank_any (c : Int) (w : World) :
    Calls Tryz.prog 258 #[.int .u8 c] w fun e w' => e = .returned (.bool (blankI c)) ∧ w' = w := by
  by_cases h1 : c = 32
  · subst h1
    go_enter Tryz.func258, Tryz.ntmps258
    go_wp2
    go_ret
    exact ⟨rfl, rfl⟩
  · by_cases h2 : c = 9
    · subst h2
      go_enter Tryz.func258, Tryz.ntmps258
      go_wp2
      go_ret
      exact ⟨rfl, rfl⟩
    · have d1 : (c == 32) = false := by simpa using h1
      have d2 : (c == 9) = false := by simpa using h2
      have HB : Hid (blankI c = false) := by
        show _ = _
        unfold blankI
        rw [d1, d2]; rfl
      clear h1 h2
      go_enter Tryz.func258, Tryz.ntmps258
      go_wp2
      go_ret
      exact ⟨ret_bool HB.out.symm, rfl⟩
set_option maxHeartbeats 1000000 in
theorem l1Trim_big (s : ByteArray) (w : World) (hs : s.size ≤ 1048576) :
    Calls Tryz.prog 213 #[.string s] w fun e w' => e = .returned (.string (trimT s)) ∧ w' = w := by
  go_enter Tryz.func213, Tryz.ntmps213
  go_wp2
  go_loop [3] (fun i => ∃ k : Nat, k ≤ s.size ∧ i = .int .i64 k ∧ ∀ (j : Nat) b, j < k → s.data.toList[j]? = some b → blankI (b.toNat : Int) = true) (fun i => s.size - (intOf i).toNat)
  case atStart => exact ⟨0, Nat.zero_le _, rfl, fun j b h => absurd h (Nat.not_lt_zero _)⟩
  case round =>
    obtain ⟨k, hk, rfl, hall⟩ := hrel
    have H1 : Hid (∀ (j : Nat) b, j < k → s.data.toList[j]? = some b → blankI (b.toNat : Int) = true) := hall
    clear hall
    by_cases hgo : ∃ h : k < s.size, blankI (s[k].toNat : Int) = true
    · obtain ⟨hlt, hb⟩ := hgo
      have HB : Hid (blankI (s[k].toNat : Int) = true) := hb
      clear hb
      go_wp2_with fail
      refine (blank_any _ _).mono ?_
      rintro e w' ⟨rfl, rfl⟩
      rw [HB.out]
      go_wp2
      go_round
      case rel =>
        refine ⟨k + 1, by omega, by go_num, fun j b hj hbj => ?_⟩
        by_cases e : j = k
        · subst e
          have : s.data.toList[j]? = some s[j] := by rw [List.getElem?_eq_getElem (by simpa using hlt)]; rfl
          rw [this] at hbj
          obtain rfl := Option.some.inj hbj
          exact HB.out
        · exact H1.out j b (by omega) hbj
      case measure => simp [intOf]; omega
    · have H2 : Hid (∀ b, k < s.data.toList.length → s.data.toList[k]? = some b → blankI (b.toNat : Int) = false) := by
        intro b hlt hb
        have hlt' : k < s.size := by simpa using hlt
        have : s.data.toList[k]? = some s[k] := by rw [List.getElem?_eq_getElem hlt]; rfl
        rw [this] at hb
        obtain rfl := Option.some.inj hb
        cases hx : blankI (s[k].toNat : Int)
        · rfl
        · exact absurd ⟨hlt', hx⟩ hgo
      by_cases hlt : k < s.size
      · have HB : Hid (blankI (s[k].toNat : Int) = false) := by
          show _ = _
          cases hx : blankI (s[k].toNat : Int)
          · rfl
          · exact absurd ⟨hlt, hx⟩ hgo
        clear hgo
        go_wp2_with fail
        refine (blank_any _ _).mono ?_
        rintro e w' ⟨rfl, rfl⟩
        rw [HB.out]
        clear HB
        go_wp2
        go_loop [4] (fun i => ∃ m : Nat, k ≤ m ∧ m ≤ s.size ∧ i = .int .i64 m ∧ ∀ (j : Nat) b, m ≤ j → s.data.toList[j]? = some b → blankI (b.toNat : Int) = true) (fun i => (intOf i).toNat)
        case atStart => exact ⟨s.size, hk, Nat.le_refl _, rfl, fun j b hj hb => absurd (List.getElem?_eq_some_iff.1 hb).1 (by simp; omega)⟩
        case round =>
          obtain ⟨m, hkm, hm, rfl, hall⟩ := hrel
          have H3 : Hid (∀ (j : Nat) b, m ≤ j → s.data.toList[j]? = some b → blankI (b.toNat : Int) = true) := hall
          clear hall
          by_cases hkm2 : k < m
          · obtain ⟨n, rfl⟩ : ∃ n, m = n + 1 := ⟨m - 1, by omega⟩
            have hn : n < s.size := by omega
            cases hb : blankI (s[n].toNat : Int)
            · have HB : Hid (blankI (s[n].toNat : Int) = false) := hb
              have HT : Hid (s.extract k (n + 1) = trimT s) := by
                refine trim_extract s k (n + 1) (trim_between _ k (n + 1) hkm (by simpa using hm) H1.out H2.out H3.out ?_)
                intro b _ hbn
                have : s.data.toList[n]? = some s[n] := by rw [List.getElem?_eq_getElem (by simpa using hn)]; rfl
                rw [Nat.add_sub_cancel, this] at hbn
                obtain rfl := Option.some.inj hbn
                exact HB.out
              clear hb
              go_wp2_with fail
              refine (blank_any _ _).mono ?_
              rintro e w' ⟨rfl, rfl⟩
              rw [HB.out]
              go_wp2
              go_ret
              exact ⟨ret_str HT.out, rfl⟩
            · have HB : Hid (blankI (s[n].toNat : Int) = true) := hb
              clear hb
              go_wp2_with fail
              refine (blank_any _ _).mono ?_
              rintro e w' ⟨rfl, rfl⟩
              rw [HB.out]
              go_wp2
              go_round
              case rel =>
                refine ⟨n, by omega, by omega, by go_num, fun j b hj hbj => ?_⟩
                by_cases e : j = n
                · subst e
                  have : s.data.toList[j]? = some s[j] := by rw [List.getElem?_eq_getElem (by simpa using hn)]; rfl
                  rw [this] at hbj
                  obtain rfl := Option.some.inj hbj
                  exact HB.out
                · exact H3.out j b (by omega) hbj
              case measure => simp [intOf]
          · obtain rfl : k = m := by omega
            have HT : Hid (ByteArray.empty = trimT s) := by
              have e := trim_extract s k k (trim_between _ k k (Nat.le_refl _) (by simpa using hm) H1.out H2.out H3.out (fun b h => absurd h (Nat.lt_irrefl _)))
              have e0 : s.extract k k = ByteArray.empty := by simp
              exact e0.symm.trans e
            go_wp2
            go_ret
            exact ⟨ret_str HT.out, rfl⟩
      · clear hgo
        go_wp2
        go_loop [4] (fun i => ∃ m : Nat, k ≤ m ∧ m ≤ s.size ∧ i = .int .i64 m ∧ ∀ (j : Nat) b, m ≤ j → s.data.toList[j]? = some b → blankI (b.toNat : Int) = true) (fun i => (intOf i).toNat)
        case atStart => exact ⟨s.size, hk, Nat.le_refl _, rfl, fun j b hj hb => absurd (List.getElem?_eq_some_iff.1 hb).1 (by simp; omega)⟩
        case round =>
          obtain ⟨m, hkm, hm, rfl, hall⟩ := hrel
          have H3 : Hid (∀ (j : Nat) b, m ≤ j → s.data.toList[j]? = some b → blankI (b.toNat : Int) = true) := hall
          clear hall
          obtain rfl : k = m := by omega
          have HT : Hid (ByteArray.empty = trimT s) := by
            have e := trim_extract s k k (trim_between _ k k (Nat.le_refl _) (by simpa using hm) H1.out H2.out H3.out (fun b h => absurd h (Nat.lt_irrefl _)))
            have e0 : s.extract k k = ByteArray.empty := by simp
            exact e0.symm.trans e
          go_wp2
          go_ret
          exact ⟨ret_str HT.out, rfl⟩
theorem l1Trim_any (s : ByteArray) (w : World) (hs : s.size ≤ 1000) :
    Calls Tryz.prog 213 #[.string s] w fun e w' => e = .returned (.string (trimT s)) ∧ w' = w := l1Trim_big s w (by omega)
end Go.Proofs.YtolkgnnjocmkdaaGreatDoor
/-
  What the model's l4Line and HeadersFault answer.
-/
namespace Go.Proofs.YtolkgnnjocmkdaaGreatDoor
open Go.ChangeShapes Go.WideShapes Go.ChangeAt Go.RowKit
theorem hstr_ne {a b : ByteArray} (h : a ≠ b) : (a.toList == b.toList) = false := by
  rw [beq_eq_false_iff_ne]
  intro e
  rw [ByteArray.toList_eq, ByteArray.toList_eq] at e
  exact h (ByteArray.ext (Array.ext' e))
set_option maxHeartbeats 2000000 in
theorem l4Line_any (r : Hdr) (w : World) :
    Calls Tryz.prog 166 #[.agg #[.string r.name, .string r.value]] w fun e w' => e = .returned (.int .i64 (faultH r)) ∧ Below w.heap.size w w' := by
  obtain ⟨n, v⟩ := r
  simp only
  have kb : Below w.heap.size w (w.alloc (.cells #[.string n, .string v] 110)) := (Below.refl _ _).alloc (Nat.le_refl _) _
  have KB : Hid (Below w.heap.size w (w.alloc (.cells #[.string n, .string v] 110))) := kb
  clear kb
  have HW : Hid (∀ w, Calls Tryz.prog 130 #[.string n] w fun e w' => e = .returned (.bool (wordS n)) ∧ w' = w) := specIsWord_any n
  cases hw : wordS n
  · have HE : Hid (faultH ⟨n, v⟩ = 5) := by show _ = _; simp [faultH, hw]
    rw [hw] at HW
    clear hw
    go_enter Tryz.func166, Tryz.ntmps166
    go_wp2_with fail
    refine (HW.out _).mono ?_
    rintro e w1 ⟨rfl, rfl⟩
    go_wp2_with fail
    go_ret
    exact ⟨ret_int HE.out.symm, KB.out⟩
  rw [hw] at HW
  by_cases hbig : 200 < v.size
  · have HE : Hid (faultH ⟨n, v⟩ = 2) := by show _ = _; simp only [faultH, hw]; rw [if_neg (by simp), if_pos hbig]
    have g : (200 : Int) < v.size := by omega
    clear hw
    go_enter Tryz.func166, Tryz.ntmps166
    go_wp2_with fail
    refine (HW.out _).mono ?_
    rintro e w1 ⟨rfl, rfl⟩
    go_wp2_with fail
    go_ret
    exact ⟨ret_int HE.out.symm, KB.out⟩
  have g : ¬ (200 : Int) < v.size := by omega
  have HP : Hid (∀ w, Calls Tryz.prog 212 #[.string v] w fun e w' => e = .returned (.bool (plainL v.data.toList)) ∧ w' = w) := fun w => plainText_any v w (by omega)
  have HT : Hid (∀ w, Calls Tryz.prog 213 #[.string v] w fun e w' => e = .returned (.string (trimT v)) ∧ w' = w) := fun w => l1Trim_any v w (by omega)
  cases hp : plainL v.data.toList
  · have HE : Hid (faultH ⟨n, v⟩ = 5) := by show _ = _; simp only [faultH, hw]; rw [if_neg (by simp), if_neg hbig, if_pos hp]
    rw [hp] at HP
    clear hw hp hbig
    go_enter Tryz.func166, Tryz.ntmps166
    go_wp2_with fail
    refine (HW.out _).mono ?_
    rintro e w1 ⟨rfl, rfl⟩
    go_wp2_with fail
    refine (HP.out _).mono ?_
    rintro e w1 ⟨rfl, rfl⟩
    go_wp2_with fail
    go_ret
    exact ⟨ret_int HE.out.symm, KB.out⟩
  rw [hp] at HP
  by_cases ht : trimT v = v
  · have HE : Hid (faultH ⟨n, v⟩ = 0) := by show _ = _; simp only [faultH, hw]; rw [if_neg (by simp), if_neg hbig, if_neg (by simp [hp]), if_pos ht]
    rw [ht] at HT
    clear hw hp hbig ht
    go_enter Tryz.func166, Tryz.ntmps166
    go_wp2_with fail
    refine (HW.out _).mono ?_
    rintro e w1 ⟨rfl, rfl⟩
    go_wp2_with fail
    refine (HP.out _).mono ?_
    rintro e w1 ⟨rfl, rfl⟩
    go_wp2_with fail
    refine (HT.out _).mono ?_
    rintro e w1 ⟨rfl, rfl⟩
    go_wp2_with fail
    go_ret
    exact ⟨ret_int HE.out.symm, KB.out⟩
  · have HE : Hid (faultH ⟨n, v⟩ = 5) := by show _ = _; simp only [faultH, hw]; rw [if_neg (by simp), if_neg hbig, if_neg (by simp [hp]), if_neg ht]
    have hq := hstr_ne ht
    generalize trimT v = t at *
    clear hw hp hbig ht
    go_enter Tryz.func166, Tryz.ntmps166
    go_wp2_with fail
    refine (HW.out _).mono ?_
    rintro e w1 ⟨rfl, rfl⟩
    go_wp2_with fail
    refine (HP.out _).mono ?_
    rintro e w1 ⟨rfl, rfl⟩
    go_wp2_with fail
    refine (HT.out _).mono ?_
    rintro e w1 ⟨rfl, rfl⟩
    go_wp2_with fail
    go_ret
    exact ⟨ret_int HE.out.symm, KB.out⟩
set_option maxRecDepth 100000 in
set_option maxHeartbeats 4000000 in
theorem specHFault_any (w : World) (a : Option Addr) (cap : Nat) (l : List Hdr) (hl : l.length ≤ 1048576) (hi : HdsIn w a l) :
    Calls Tryz.prog 111 #[.slice a l.length cap] w fun e w' => e = .returned (.int .i64 (headsC l)) ∧ Below w.heap.size w w' := by
  by_cases h20 : 20 < l.length
  · have HE : Hid (headsC l = 2) := headsC_many h20
    have g : (20 : Int) < (l.length : Int) := by omega
    clear hi
    generalize l.length = n at *
    go_enter Tryz.func111, Tryz.ntmps111
    go_wp2_with fail
    go_ret
    exact ⟨ret_int HE.out.symm, Below.refl _ _⟩
  have HC : Hid (headsC l = faultHL l) := headsC_few h20
  have HI : Hid (HdsIn w a l) := hi
  clear hi
  generalize hn : l.length = n at *
  have HN : Hid (l.length = n) := hn
  clear hn
  have g : ¬ (20 : Int) < (n : Int) := by omega
  go_enter Tryz.func111, Tryz.ntmps111
  go_wp2_with fail
  go_loopw [3] (fun i wr => ∃ k : Nat, k ≤ n ∧ i = .int .i64 k ∧ faultHL l = faultHL (l.drop k) ∧ Below w.heap.size w wr) (fun i _ => n - (intOf i).toNat)
  case atStart => exact ⟨0, Nat.zero_le _, rfl, rfl, Below.refl _ _⟩
  case round =>
    obtain ⟨k, hk, rfl, hf, hb⟩ := hrel
    have HF : Hid (faultHL l = faultHL (l.drop k)) := hf
    clear hf
    by_cases hlt : k < n
    · obtain ⟨r, hr⟩ : ∃ r, l[k]? = some r := ⟨l[k]'(by have := HN.out; omega), List.getElem?_eq_getElem _⟩
      rcases HI.out with h | ⟨b, off, rfl, hat⟩
      · subst h; simp at hr
      obtain ⟨p1, p3⟩ := (hat.keep hb) k r hr
      have HD : Hid (l.drop k = r :: l.drop (k + 1)) := drop_hdr l k r hr
      have gk : (k : Int) < n := by omega
      have SF : Hid (∀ w, Calls Tryz.prog 166 #[.agg #[.string r.name, .string r.value]] w fun e w' => e = .returned (.int .i64 (faultH r)) ∧ Below w.heap.size w w') := l4Line_any r
      clear hr hat HI
      by_cases hfr : faultH r = 0
      · have HX : Hid (faultHL l = faultHL (l.drop (k + 1))) := by show _ = _; rw [HF.out, HD.out, faultHL_ok hfr]
        rw [hfr] at SF
        clear hfr HD HF
        obtain ⟨rn, rv⟩ := r
        simp only at p1 p3 SF
        go_wp2_with fail
        refine (SF.out _).mono ?_
        rintro e w2 ⟨rfl, hb2⟩
        have hbb := hb.trans (hb2.mono hb.size)
        clear hb2 hb
        go_wp2_with fail
        go_roundw
        case rel => exact ⟨k + 1, by omega, by go_num, HX.out, hbb⟩
        case measure => simp [intOf]; omega
      · have HX : Hid (headsC l = faultH r) := by show _ = _; rw [HC.out, HF.out, HD.out, faultHL_bad hfr]
        clear HD HF HC
        obtain ⟨rn, rv⟩ := r
        simp only at p1 p3 SF
        generalize faultH ⟨rn, rv⟩ = fr at *
        go_wp2_with fail
        refine (SF.out _).mono ?_
        rintro e w2 ⟨rfl, hb2⟩
        have hbb := hb.trans (hb2.mono hb.size)
        clear hb2 hb
        go_wp2_with fail
        go_ret
        exact ⟨ret_int HX.out.symm, hbb⟩
    · have HX : Hid (headsC l = 0) := by
        show _ = _
        rw [HC.out, HF.out, List.drop_of_length_le (by have := HN.out; omega)]
        rfl
      clear HF HC
      go_wp2_with fail
      go_ret
      exact ⟨ret_int HX.out.symm, hb⟩
end Go.Proofs.YtolkgnnjocmkdaaGreatDoor
/-
  What isPlain and allPlain answer.
-/
namespace Go.Proofs.YtolkgnnjocmkdaaGreatDoor
open Go.ChangeShapes Go.WideShapes Go.ChangeAt Go.RowKit
set_option maxHeartbeats 400000 in
theorem iplain_any (c : Int) (w : World) (h0 : 0 ≤ c) (h1 : c < 256) :
    Calls Tryz.prog 244 #[.int .u8 c] w fun e w' => e = .returned (.bool (plainI c)) ∧ w' = w := by
  by_cases e9 : c = 9
  · subst e9
    go_enter Tryz.func244, Tryz.ntmps244
    go_wp2
    go_ret
    exact ⟨rfl, rfl⟩
  · have d9 : (c == 9) = false := by simpa using e9
    by_cases a1 : 32 ≤ c
    · by_cases a2 : c ≤ 126
      · have d2 : decide (c ≤ 126) = true := by simpa using a2
        have HP : Hid (plainI c = true) := by show _ = _; simp [plainI, a1, a2]
        go_enter Tryz.func244, Tryz.ntmps244
        go_wp2
        go_ret
        exact ⟨ret_bool HP.out.symm, rfl⟩
      · have d2 : decide (c ≤ 126) = false := by simpa using a2
        have HP : Hid (plainI c = false) := by show _ = _; simp [plainI, e9]; omega
        go_enter Tryz.func244, Tryz.ntmps244
        go_wp2
        go_ret
        exact ⟨ret_bool HP.out.symm, rfl⟩
    · have HP : Hid (plainI c = false) := by show _ = _; simp [plainI, e9]; omega
      go_enter Tryz.func244, Tryz.ntmps244
      go_wp2
      go_ret
      exact ⟨ret_bool HP.out.symm, rfl⟩
set_option maxHeartbeats 1000000 in
theorem allPlain_any (s : ByteArray) (w : World) (hs : s.size ≤ 1048576) :
    Calls Tryz.prog 205 #[.string s] w fun e w' => e = .returned (.bool (plainL s.data.toList)) ∧ w' = w := by
  go_enter Tryz.func205, Tryz.ntmps205
  go_wp2
  go_loop [6] (fun i => ∃ k : Nat, k ≤ s.size ∧ i = .int .i64 k ∧ plainL (s.data.toList.take k) = true) (fun i => s.size - (intOf i).toNat)
  case atStart => exact ⟨0, Nat.zero_le _, rfl, rfl⟩
  case round =>
    obtain ⟨k, hk, rfl, hall⟩ := hrel
    by_cases hlt : k < s.size
    · have hb : ((s[k].toNat : Nat) : Int) < 256 := by have := s[k].toNat_lt; omega
      cases hw : plainI (s[k].toNat : Int)
      · have HN : Hid (plainL s.data.toList = false) := plainL_not s k hlt hw
        have HW : Hid (plainI (s[k].toNat : Int) = false) := hw
        clear hall hw
        go_wp2_with fail
        refine (iplain_any _ _ (by omega) hb).mono ?_
        rintro e w' ⟨rfl, rfl⟩
        rw [HW.out]
        go_wp2
        go_ret
        exact ⟨ret_bool HN.out.symm, rfl⟩
      · have HA : Hid (plainL (s.data.toList.take (k + 1)) = true) := by
          show _ = _
          rw [take_snoc s k hlt, plainL_snoc, hall, hw]; rfl
        have HW : Hid (plainI (s[k].toNat : Int) = true) := hw
        clear hall hw
        go_wp2_with fail
        refine (iplain_any _ _ (by omega) hb).mono ?_
        rintro e w' ⟨rfl, rfl⟩
        rw [HW.out]
        go_wp2
        go_round
        case rel => exact ⟨k + 1, by omega, by go_num, HA.out⟩
        case measure => simp [intOf]; omega
    · have ek : s.data.toList.take k = s.data.toList := List.take_of_length_le (by simp; omega)
      rw [ek] at hall
      have HN : Hid (plainL s.data.toList = true) := hall
      clear ek hall
      go_wp2
      go_ret
      exact ⟨ret_bool HN.out.symm, rfl⟩
end Go.Proofs.YtolkgnnjocmkdaaGreatDoor
/-
  What IsWord answers where the table lies in memory as the program lays it.
-/
namespace Go.Proofs.YtolkgnnjocmkdaaGreatDoor
open Go.ChangeShapes Go.WideShapes Go.ChangeAt Go.RowKit
set_option maxHeartbeats 400000 in
theorem implIsWord_size (s : ByteArray) (w : World) (h : s.size < 1 ∨ 64 < s.size) :
    Calls Tryz.prog 98 #[.string s] w fun e w' => e = .returned (.bool false) ∧ Below w.heap.size w w' := by
  rcases h with h | h
  · have hh : (s.size : Int) < 1 := by omega
    go_enter Tryz.func98, Tryz.ntmps98
    go_wp2
    go_ret
    exact ⟨rfl, Below.refl _ _⟩
  · have hh : (64 : Int) < s.size := by omega
    have h1 : (1 : Int) ≤ s.size := by omega
    have d : decide ((s.size : Int) ≤ 64) = false := by simp; omega
    go_enter Tryz.func98, Tryz.ntmps98
    go_wp2
    go_ret
    exact ⟨rfl, Below.refl _ _⟩
/-- A whole array loaded behind a guard that lets it. -/
theorem wpList_load_row_g {P : Program} {ops : Array Oper} {rest : List Oper} {o : Oper} {a : Act} {w : World} {Q : Exit → Act → World → Prop} (hw : Region.wanted o (yielded ops a.tmps) = true) (ty : TypeId) (x : Operand) (ho : o.op = .load ty x)
    (g : Nat) (hx : a.eval x = .pointer (some ⟨g, 0, none⟩)) (t : TypeId) (cs : Array Value) (fr : Nat × Nat) (d : TypeDesc) (hg : w.heap[g]? = some (.cells cs t fr))
    (hu : P.underlying ty = some d) (hd : (match d with | .struct _ | .array _ _ => true | _ => false) = true) (hi : (P.info? ty).map (·.size) = some cs.size)
    (h : wpList P ops Q rest (a.put o.dst (.agg cs)) w) : wpList P ops Q (o :: rest) a w :=
  wpList_step fun _ hK => by rw [if_pos hw]; exact wp_load_row ty x ho g hx t cs fr d hg hu hd hi (hK _ _ h)
theorem infoSet : (Tryz.prog.info? 210).map (·.size) = some 128 := by kernel_rfl
set_option maxHeartbeats 400000 in
theorem implIsWord_mid (s : ByteArray) (w : World) (cs : Array Value) (tt : TypeId) (fr : Nat × Nat) (h1 : 1 ≤ s.size) (h2 : s.size ≤ 64) (hg : w.heap[0]? = some (.cells cs tt fr)) (hsz : cs.size = 128) (hcs : ∀ i, i < 128 → cs[i]? = some (.bool (wordI (i : Int)))) :
    Calls Tryz.prog 98 #[.string s] w fun e w' => e = .returned (.bool (allW s.data.toList)) ∧ Below w.heap.size w w' := by
  have g1 : (1 : Int) ≤ s.size := by omega
  have d : decide ((s.size : Int) ≤ 64) = true := by simp; omega
  have HG : Hid (w.heap[0]? = some (.cells cs tt fr)) := hg
  have HI : Hid ((Tryz.prog.info? 210).map (·.size) = some cs.size) := by
    show _ = _
    rw [infoSet, hsz]
  have HC : Hid (∀ i, i < 128 → cs[i]? = some (.bool (wordI (i : Int)))) := hcs
  clear hcs hg hsz
  go_enter Tryz.func98, Tryz.ntmps98
  go_wp2_with (refine wpList_load_row_g (by rfl) 210 (.global 0) rfl 0 rfl tt cs fr _ HG.out Tryz.underlying210 rfl HI.out ?_)
  refine (hasOnly_any s cs _ h2 HC.out).mono ?_
  rintro e w1 ⟨rfl, hb⟩
  go_wp2
  go_ret
  exact ⟨rfl, hb⟩
theorem implIsWord_any (s : ByteArray) (w : World) (cs : Array Value) (tt : TypeId) (fr : Nat × Nat) (hg : w.heap[0]? = some (.cells cs tt fr)) (hsz : cs.size = 128) (hcs : ∀ i, i < 128 → cs[i]? = some (.bool (wordI (i : Int)))) :
    Calls Tryz.prog 98 #[.string s] w fun e w' => e = .returned (.bool (wordS s)) ∧ Below w.heap.size w w' := by
  by_cases c : s.size < 1 ∨ 64 < s.size
  · have h : wordS s = false := by
      rcases c with c | c
      · exact wordS_short s c
      · exact wordS_long s c
    rw [h]; exact implIsWord_size s w c
  · rw [wordS_mid s (by omega) (by omega)]
    exact implIsWord_mid s w cs tt fr (by omega) (by omega) hg hsz hcs
end Go.Proofs.YtolkgnnjocmkdaaGreatDoor
/-
  The law of IsWord out of contracts; what the row's list gives.
-/
namespace Go.Proofs.YtolkgnnjocmkdaaGreatDoor
open Go.ChangeShapes Go.WideShapes Go.ChangeAt Go.RowKit
/-- An array of bools that reads as a table holds the table, cell for cell. -/
theorem cells_of_bools {H : Type} {enc : TypeId × Value → H} {P : Program} {w : World} {base : Nat} {sp : Nat → Bool} {held : Bool} {fuel : Nat} {t e : TypeId} {n : Nat} {cs : List Value} {zs : List Bool} {p : List MemPlace}
    (ht : P.underlying t = some (.array n e)) (he : P.underlying e = some .bool) (hce : P.cellsOf e = 1) (hct : P.cellsOf t = n)
    (h : DataW.trod enc P w base sp held fuel t cs = some (.agg (zs.map fun z => .lit (.bool z)), p)) : cs = zs.map fun z => Value.bool z := by
  cases fuel with
  | zero => simp [DataW.trod] at h
  | succ fuel =>
    simp only [DataW.trod, ht, hce, hct, Nat.mul_one] at h
    split at h
    · rename_i hl
      obtain ⟨xs, hm, hx⟩ := Option.map_eq_some_iff.1 h
      have hxs : xs.map (·.1) = zs.map fun z => (DataW.lit (.bool z) : DataW H) := by
        have := congrArg Prod.fst hx
        simpa using this
      have hxl : xs.length = n := by simpa using Lib.mapM_length hm
      have hzl : zs.length = n := by
        have := congrArg List.length hxs
        simp at this
        omega
      apply List.ext_getElem?
      intro i
      by_cases hi : i < n
      · obtain ⟨b, hb, hf⟩ := Lib.mapM_at hm i i (by simp [hi])
        obtain ⟨z, hc, rfl⟩ := DataW.trod_bool he hf
        have h1 : cs[i]? = some (.bool z) := by
          have := congrArg (·[0]?) hc
          simpa [List.getElem?_take, List.getElem?_drop] using this
        have h2 : (xs.map (·.1))[i]? = some (DataW.lit (.bool z) : DataW H) := by simp [hb]
        rw [hxs] at h2
        simp only [List.getElem?_map, Option.map_eq_some_iff, DataW.lit.injEq, Lit.bool.injEq] at h2
        obtain ⟨z', hz', rfl⟩ := h2
        simp [h1, hz']
      · rw [List.getElem?_eq_none (by omega), List.getElem?_eq_none (by simp; omega)]
    · cases h
theorem setCells : Tryz.prog.cellsOf 210 = 128 := by kernel_rfl
theorem boolCells : Tryz.prog.cellsOf 4 = 1 := by kernel_rfl
theorem setNamed : Tryz.prog.globalNamed "loop.example/g00665/impl.wordBytes" = some 0 := by kernel_rfl
theorem setType : (Tryz.prog.globals[0]?).map (·.type) = some 210 := by kernel_rfl
theorem laidTab {H : Type} : (Rows.laid_loop_example_g00665_impl_wordBytes : DataW H) = .agg (wordTab.map fun z => .lit (.bool z)) := by kernel_rfl
/-- The table lies in memory. -/
def SetIs (w : World) : Prop := ∃ cs tt fr, w.heap[0]? = some (.cells cs tt fr) ∧ cs.size = 128 ∧ ∀ i, i < 128 → cs[i]? = some (.bool (wordI (i : Int)))
theorem setIs_of {w : World} {rest : List (String × DataW Unit)} (h : laidMet Tryz.prog (("loop.example/g00665/impl.wordBytes", Rows.laid_loop_example_g00665_impl_wordBytes) :: rest) w) : SetIs w := by
  obtain ⟨ps, ⟨g', t', cs, fuel, p, q, hg', ht', hvar, hd, _, _⟩, _⟩ := h
  obtain rfl := Option.some.inj (setNamed.symm.trans hg')
  obtain rfl := Option.some.inj (setType.symm.trans ht')
  rw [laidTab] at hd
  have hcs := cells_of_bools Tryz.underlying210 Tryz.underlying4 boolCells setCells hd
  unfold World.var? at hvar
  rw [setNamed] at hvar
  simp only [Option.bind_some] at hvar
  cases hb : w.heap[0]? with
  | none => rw [hb] at hvar; cases hvar
  | some o =>
    rw [hb] at hvar
    cases o with
    | cells c tt fr =>
      simp only [Option.some.injEq] at hvar
      subst hvar
      have hl : c.toList.length = 128 := by rw [hcs, List.length_map]; exact wordTab_len
      refine ⟨c, tt, fr, hb, by simpa using hl, fun i hi => ?_⟩
      rw [← Array.getElem?_toList, hcs, List.getElem?_map]
      have hi2 : i < wordTab.length := by rw [wordTab_len]; exact hi
      rw [List.getElem?_eq_getElem hi2]
      simp [wordI, hi2]
    | map _ _ => cases hvar
    | _ => cases hvar
theorem SetIs.below {w w' : World} (h : SetIs w) (hb : Below w.heap.size w w') : SetIs w' := by
  obtain ⟨cs, tt, fr, hg, h1, h2⟩ := h
  refine ⟨cs, tt, fr, ?_, h1, h2⟩
  rw [hb.block 0 (Array.getElem?_eq_some_iff.1 hg).1, hg]
theorem implIsWord_set (s : ByteArray) (w : World) (h : SetIs w) :
    Calls Tryz.prog 98 #[.string s] w fun e w' => e = .returned (.bool (wordS s)) ∧ Below w.heap.size w w' := by
  obtain ⟨cs, tt, fr, hg, h1, h2⟩ := h
  exact implIsWord_any s w cs tt fr hg h1 h2
end Go.Proofs.YtolkgnnjocmkdaaGreatDoor
/-
  What TrimText and its model answer; the law of TrimText out of them.
-/
namespace Go.Proofs.YtolkgnnjocmkdaaGreatDoor
open Go.ChangeShapes Go.WideShapes Go.ChangeAt Go.RowKit
theorem trimT_size (s : ByteArray) : (trimT s).size ≤ s.size := by
  have h : (Lib.trimS s.data.toList [32, 9]).length ≤ s.data.toList.length := by
    unfold Lib.trimS Lib.trimLeftS Lib.trimRightS
    refine Nat.le_trans (List.dropWhile_sublist _).length_le ?_
    rw [List.length_reverse]
    refine Nat.le_trans (List.dropWhile_sublist _).length_le ?_
    rw [List.length_reverse]
    exact Nat.le_refl _
  have e : (trimT s).size = (Lib.trimS s.data.toList [32, 9]).length := by simp [trimT, ByteArray.size]
  rw [e]
  simpa using h
theorem trim_lib (s : ByteArray) (w : World) (hs : s.size ≤ 1000) :
    Calls Tryz.prog 206 #[.string s, .string ⟨#[32, 9]⟩] w fun e w' => e = .returned (.string (trimT s)) ∧ Below w.heap.size w w' :=
  Any.strings_Trim_laid Tryz.lays160 (by kernel_rfl) s ⟨#[32, 9]⟩ w (by omega) (by decide) (ascii_of_all (by decide))
theorem trim_big (s : ByteArray) (w : World) (hs : s.size ≤ 1048576) :
    Calls Tryz.prog 206 #[.string s, .string ⟨#[32, 9]⟩] w fun e w' => e = .returned (.string (trimT s)) ∧ Below w.heap.size w w' :=
  Any.strings_Trim_laid Tryz.lays160 (by kernel_rfl) s ⟨#[32, 9]⟩ w (by omega) (by decide) (ascii_of_all (by decide))
theorem clone_lib (s : ByteArray) (w : World) (hs : s.size ≤ 1000) :
    Calls Tryz.prog 161 #[.string s] w fun e w' => e = .returned (.string s) ∧ Below w.heap.size w w' :=
  Any.stringslite_Clone Tryz.laysM316 s w (by omega)
set_option maxHeartbeats 400000 in
theorem clone_any (s : ByteArray) (w : World) (hs : s.size ≤ 1000) :
    Calls Tryz.prog 104 #[.string s] w fun e w' => e = .returned (.string s) ∧ Below w.heap.size w w' := by
  go_enter Tryz.func104, Tryz.ntmps104
  go_wp2_with fail
  refine (clone_lib s _ hs).mono ?_
  rintro e w1 ⟨rfl, hb⟩
  go_wp2
  go_ret
  exact ⟨rfl, hb⟩
end Go.Proofs.YtolkgnnjocmkdaaGreatDoor
/-
  What lineFault and HeadersFault answer.
-/
namespace Go.Proofs.YtolkgnnjocmkdaaGreatDoor
open Go.ChangeShapes Go.WideShapes Go.ChangeAt Go.RowKit Go.Sort
theorem hdr_room {w w1 : World} {n v : ByteArray} {t : TypeId} (hb : Below (w.alloc (.cells #[.string n, .string v] t)).heap.size (w.alloc (.cells #[.string n, .string v] t)) w1) :
    w.heap.size < w1.heap.size ∧ w1.cell? ⟨w.heap.size, 0, none⟩ = some (.string n) ∧ w1.cell? ⟨w.heap.size, 1, none⟩ = some (.string v) ∧ Below w.heap.size w w1 := by
  rw [World.size_alloc] at hb
  have hz := hb.size
  simp only [World.size_alloc] at hz
  exact ⟨hz, by rw [hb.cell (p := ⟨w.heap.size, 0, none⟩) (Nat.lt_succ_self _)]; simp, by rw [hb.cell (p := ⟨w.heap.size, 1, none⟩) (Nat.lt_succ_self _)]; simp, ((Below.refl _ _).alloc (Nat.le_refl _) _).trans (hb.mono (Nat.le_succ _))⟩
theorem hkeep {W W' : World} (hb : Below W.heap.size W W') {p : Addr} {v : Value} (h : W.cell? p = some v) : W'.cell? p = some v := by
  rw [hb.cell (block_lt_of_cell h)]; exact h
set_option maxHeartbeats 2000000 in
theorem implLine_any (r : Hdr) (w : World) (hset : SetIs w) :
    Calls Tryz.prog 153 #[.agg #[.string r.name, .string r.value]] w fun e w' => e = .returned (.int .i64 (faultH r)) ∧ Below w.heap.size w w' := by
  obtain ⟨n, v⟩ := r
  simp only
  have HW : Hid (Calls Tryz.prog 98 #[.string n] (w.alloc (.cells #[.string n, .string v] 110)) fun e w' => e = .returned (.bool (wordS n)) ∧ Below (w.alloc (.cells #[.string n, .string v] 110)).heap.size (w.alloc (.cells #[.string n, .string v] 110)) w') := implIsWord_set n _ (hset.below ((Below.refl _ _).alloc (Nat.le_refl _) _))
  clear hset
  cases hw : wordS n
  · have HE : Hid (faultH ⟨n, v⟩ = 5) := by show _ = _; simp [faultH, hw]
    rw [hw] at HW
    clear hw
    go_enter Tryz.func153, Tryz.ntmps153
    go_wp2_with fail
    refine HW.out.mono ?_
    rintro e w1 ⟨rfl, hb1⟩
    obtain ⟨hz1, p0, p1, kb⟩ := hdr_room hb1
    have KB : Hid (Below w.heap.size w w1) := kb
    clear hb1 kb
    go_wp2_with fail
    go_ret
    exact ⟨ret_int HE.out.symm, KB.out⟩
  rw [hw] at HW
  by_cases hbig : 200 < v.size
  · have HE : Hid (faultH ⟨n, v⟩ = 2) := by show _ = _; simp only [faultH, hw]; rw [if_neg (by simp), if_pos hbig]
    have g : (200 : Int) < v.size := by omega
    clear hw
    go_enter Tryz.func153, Tryz.ntmps153
    go_wp2_with fail
    refine HW.out.mono ?_
    rintro e w1 ⟨rfl, hb1⟩
    obtain ⟨hz1, p0, p1, kb⟩ := hdr_room hb1
    have KB : Hid (Below w.heap.size w w1) := kb
    clear hb1 kb
    go_wp2_with fail
    go_ret
    exact ⟨ret_int HE.out.symm, KB.out⟩
  have g : ¬ (200 : Int) < v.size := by omega
  have HP : Hid (∀ w, Calls Tryz.prog 205 #[.string v] w fun e w' => e = .returned (.bool (plainL v.data.toList)) ∧ Below w.heap.size w w') := fun w => (allPlain_any v w (by omega)).mono fun _ _ ⟨h1, h2⟩ => ⟨h1, h2 ▸ Below.refl _ _⟩
  have HT : Hid (∀ w, Calls Tryz.prog 206 #[.string v, .string ⟨#[32, 9]⟩] w fun e w' => e = .returned (.string (trimT v)) ∧ Below w.heap.size w w') := fun w => trim_big v w (by omega)
  cases hp : plainL v.data.toList
  · have HE : Hid (faultH ⟨n, v⟩ = 5) := by show _ = _; simp only [faultH, hw]; rw [if_neg (by simp), if_neg hbig, if_pos hp]
    rw [hp] at HP
    clear hw hp hbig
    go_enter Tryz.func153, Tryz.ntmps153
    go_wp2_with fail
    refine HW.out.mono ?_
    rintro e w1 ⟨rfl, hb1⟩
    obtain ⟨hz1, p0, p1, kb⟩ := hdr_room hb1
    have KB : Hid (Below w.heap.size w w1) := kb
    clear hb1 kb
    go_wp2_with fail
    have q1 := cell_regrown p1
    have cP : ∀ d' os, Calls Tryz.prog 205 #[.string v] (grow (redrawn w1 d') os) fun e w'' => e = .returned (.bool false) ∧ ∃ p : Regrown, w'' = grow (redrawn w1 p.d) p.os := fun d' os => Calls.regrown_of (HP.out _)
    refine wp_region_quiet_below (by kernel_rfl) (by kernel_rfl) ?_
    repeat (go_big_quiet_step (first | (go_at_call 205; exact cP _ _)))
    refine wpQuiet_nil ?_
    intro W2 hW2
    have hbW2 : Below w1.heap.size w1 W2 := by
      obtain ⟨⟨d, os⟩, rfl⟩ := hW2
      exact below_regrown w1 d os
    have KB2 : Hid (Below w.heap.size w W2) := KB.out.trans (hbW2.mono KB.out.size)
    clear hW2 hbW2 cP q1 p0 p1 KB
    go_wp2_with fail
    go_ret
    exact ⟨ret_int HE.out.symm, KB2.out⟩
  rw [hp] at HP
  by_cases ht : trimT v = v
  · have HE : Hid (faultH ⟨n, v⟩ = 0) := by show _ = _; simp only [faultH, hw]; rw [if_neg (by simp), if_neg hbig, if_neg (by simp [hp]), if_pos ht]
    rw [ht] at HT
    clear hw hp hbig ht
    go_enter Tryz.func153, Tryz.ntmps153
    go_wp2_with fail
    refine HW.out.mono ?_
    rintro e w1 ⟨rfl, hb1⟩
    obtain ⟨hz1, p0, p1, kb⟩ := hdr_room hb1
    have KB : Hid (Below w.heap.size w w1) := kb
    clear hb1 kb
    go_wp2_with fail
    have q1 := cell_regrown p1
    have cP : ∀ d' os, Calls Tryz.prog 205 #[.string v] (grow (redrawn w1 d') os) fun e w'' => e = .returned (.bool true) ∧ ∃ p : Regrown, w'' = grow (redrawn w1 p.d) p.os := fun d' os => Calls.regrown_of (HP.out _)
    have cT : ∀ d' os, Calls Tryz.prog 206 #[.string v, .string ⟨#[32, 9]⟩] (grow (redrawn w1 d') os) fun e w'' => e = .returned (.string v) ∧ ∃ p : Regrown, w'' = grow (redrawn w1 p.d) p.os := fun d' os => Calls.regrown_of (HT.out _)
    refine wp_region_quiet_below (by kernel_rfl) (by kernel_rfl) ?_
    repeat (go_big_quiet_step (first | (go_at_call 205; exact cP _ _) | (go_at_call 206; exact cT _ _)))
    refine wpQuiet_nil ?_
    intro W2 hW2
    have hbW2 : Below w1.heap.size w1 W2 := by
      obtain ⟨⟨d, os⟩, rfl⟩ := hW2
      exact below_regrown w1 d os
    have KB2 : Hid (Below w.heap.size w W2) := KB.out.trans (hbW2.mono KB.out.size)
    clear hW2 hbW2 cP cT q1 p0 p1 KB
    go_wp2_with fail
    go_ret
    exact ⟨ret_int HE.out.symm, KB2.out⟩
  · have HE : Hid (faultH ⟨n, v⟩ = 5) := by show _ = _; simp only [faultH, hw]; rw [if_neg (by simp), if_neg hbig, if_neg (by simp [hp]), if_neg ht]
    have hq := hstr_ne ht
    generalize trimT v = t at *
    clear hw hp hbig ht
    go_enter Tryz.func153, Tryz.ntmps153
    go_wp2_with fail
    refine HW.out.mono ?_
    rintro e w1 ⟨rfl, hb1⟩
    obtain ⟨hz1, p0, p1, kb⟩ := hdr_room hb1
    have KB : Hid (Below w.heap.size w w1) := kb
    clear hb1 kb
    go_wp2_with fail
    have q1 := cell_regrown p1
    have cP : ∀ d' os, Calls Tryz.prog 205 #[.string v] (grow (redrawn w1 d') os) fun e w'' => e = .returned (.bool true) ∧ ∃ p : Regrown, w'' = grow (redrawn w1 p.d) p.os := fun d' os => Calls.regrown_of (HP.out _)
    have cT : ∀ d' os, Calls Tryz.prog 206 #[.string v, .string ⟨#[32, 9]⟩] (grow (redrawn w1 d') os) fun e w'' => e = .returned (.string t) ∧ ∃ p : Regrown, w'' = grow (redrawn w1 p.d) p.os := fun d' os => Calls.regrown_of (HT.out _)
    refine wp_region_quiet_below (by kernel_rfl) (by kernel_rfl) ?_
    repeat (go_big_quiet_step (first | (go_at_call 205; exact cP _ _) | (go_at_call 206; exact cT _ _)))
    refine wpQuiet_nil ?_
    intro W2 hW2
    have hbW2 : Below w1.heap.size w1 W2 := by
      obtain ⟨⟨d, os⟩, rfl⟩ := hW2
      exact below_regrown w1 d os
    have KB2 : Hid (Below w.heap.size w W2) := KB.out.trans (hbW2.mono KB.out.size)
    clear hW2 hbW2 cP cT q1 p0 p1 KB
    go_wp2_with fail
    go_ret
    exact ⟨ret_int HE.out.symm, KB2.out⟩
set_option maxRecDepth 100000 in
set_option maxHeartbeats 4000000 in
theorem implHFault_any (w : World) (a : Option Addr) (cap : Nat) (l : List Hdr) (hl : l.length ≤ 1048576) (hset : SetIs w) (hi : HdsIn w a l) :
    Calls Tryz.prog 95 #[.slice a l.length cap] w fun e w' => e = .returned (.int .i64 (headsC l)) ∧ Below w.heap.size w w' := by
  by_cases h20 : 20 < l.length
  · have HE : Hid (headsC l = 2) := headsC_many h20
    have g : (20 : Int) < (l.length : Int) := by omega
    clear hi hset
    generalize l.length = n at *
    go_enter Tryz.func95, Tryz.ntmps95
    go_wp2_with fail
    go_ret
    exact ⟨ret_int HE.out.symm, Below.refl _ _⟩
  have HC : Hid (headsC l = faultHL l) := headsC_few h20
  have HI : Hid (HdsIn w a l) := hi
  have HS : Hid (SetIs w) := hset
  clear hi hset
  generalize hn : l.length = n at *
  have HN : Hid (l.length = n) := hn
  clear hn
  have g : ¬ (20 : Int) < (n : Int) := by omega
  go_enter Tryz.func95, Tryz.ntmps95
  go_wp2_with fail
  go_loopw [11] (fun i wr => ∃ k : Nat, k ≤ n ∧ i = .int .i64 k ∧ faultHL l = faultHL (l.drop k) ∧ Below w.heap.size w wr) (fun i _ => n - (intOf i).toNat)
  case atStart => exact ⟨0, Nat.zero_le _, rfl, rfl, Below.refl _ _⟩
  case round =>
    obtain ⟨k, hk, rfl, hf, hb⟩ := hrel
    have HF : Hid (faultHL l = faultHL (l.drop k)) := hf
    clear hf
    by_cases hlt : k < n
    · obtain ⟨r, hr⟩ : ∃ r, l[k]? = some r := ⟨l[k]'(by have := HN.out; omega), List.getElem?_eq_getElem _⟩
      rcases HI.out with h | ⟨b, off, rfl, hat⟩
      · subst h; simp at hr
      obtain ⟨p1, p3⟩ := (hat.keep hb) k r hr
      have HD : Hid (l.drop k = r :: l.drop (k + 1)) := drop_hdr l k r hr
      have gk : (k : Int) < n := by omega
      have SF : Hid (∀ W, Below wr.heap.size wr W → Calls Tryz.prog 153 #[.agg #[.string r.name, .string r.value]] W fun e w' => e = .returned (.int .i64 (faultH r)) ∧ Below W.heap.size W w') := fun W h => implLine_any r W ((HS.out.below hb).below h)
      clear hr hat HI
      by_cases hfr : faultH r = 0
      · have HX : Hid (faultHL l = faultHL (l.drop (k + 1))) := by show _ = _; rw [HF.out, HD.out, faultHL_ok hfr]
        rw [hfr] at SF
        clear hfr HD HF
        obtain ⟨rn, rv⟩ := r
        simp only at p1 p3 SF
        go_wp2_with fail
        refine (SF.out _ ((Below.refl _ _).alloc (Nat.le_refl _) _)).mono ?_
        rintro e w2 ⟨rfl, hb2⟩
        obtain ⟨_, _, _, kb⟩ := hdr_room hb2
        have hbb := hb.trans (kb.mono hb.size)
        clear hb2 hb kb
        go_wp2_with fail
        go_roundw
        case rel => exact ⟨k + 1, by omega, by go_num, HX.out, hbb⟩
        case measure => simp [intOf]; omega
      · have HX : Hid (headsC l = faultH r) := by show _ = _; rw [HC.out, HF.out, HD.out, faultHL_bad hfr]
        clear HD HF HC
        obtain ⟨rn, rv⟩ := r
        simp only at p1 p3 SF
        generalize faultH ⟨rn, rv⟩ = fr at *
        go_wp2_with fail
        refine (SF.out _ ((Below.refl _ _).alloc (Nat.le_refl _) _)).mono ?_
        rintro e w2 ⟨rfl, hb2⟩
        obtain ⟨_, _, _, kb⟩ := hdr_room hb2
        have hbb := hb.trans (kb.mono hb.size)
        clear hb2 hb kb
        go_wp2_with fail
        go_ret
        exact ⟨ret_int HX.out.symm, hbb⟩
    · have HX : Hid (headsC l = 0) := by
        show _ = _
        rw [HC.out, HF.out, List.drop_of_length_le (by have := HN.out; omega)]
        rfl
      clear HF HC
      go_wp2_with fail
      go_ret
      exact ⟨ret_int HX.out.symm, hb⟩
end Go.Proofs.YtolkgnnjocmkdaaGreatDoor
/-
  What LowerText answers where the text is not too long.
-/
namespace Go.Proofs.YtolkgnnjocmkdaaGreatDoor
open Go.ChangeShapes Go.WideShapes Go.ChangeAt Go.RowKit
set_option maxHeartbeats 1000000 in
theorem implLower_any (s : ByteArray) (w : World) (hs : s.size ≤ 1000) :
    Calls Tryz.prog 160 #[.string s] w fun e w' => e = .returned (.agg #[.int .i64 0, .string (lowS s)]) ∧ Below w.heap.size w w' := by
  obtain ⟨C, cap, hcv, hrow⟩ : ∃ C cap, (convert 9 25 (.string s)).run Tryz.prog (w.alloc (.cells #[.int .i64 0, .string ⟨#[]⟩] 85)) = .ok (.slice (some ⟨w.heap.size + 1, 0, none⟩) s.size cap) ((w.alloc (.cells #[.int .i64 0, .string ⟨#[]⟩] 85)).drew.alloc (.cells C 5 (C.size, C.size + 1))) ∧ BRow ((w.alloc (.cells #[.int .i64 0, .string ⟨#[]⟩] 85)).alloc (.cells C 5 (C.size, C.size + 1))) (w.heap.size + 1) s.data.toList := by
    have h1 := run_bytes_of_string (P := Tryz.prog) (w.alloc (.cells #[.int .i64 0, .string ⟨#[]⟩] 85)) 9 25 5 s Tryz.underlying9 Tryz.underlying25 Tryz.underlying5
    have h2 := fun cap => BRow.made (w.alloc (.cells #[.int .i64 0, .string ⟨#[]⟩] 85)) s cap _ rfl
    simp only [World.size_alloc] at h1 h2
    exact ⟨_, _, h1, h2 _⟩
  have hns : ¬ (1000 : Int) < s.size := by omega
  go_enter Tryz.func160, Tryz.ntmps160
  go_wp2
  go_loopw [14] (fun i wr => ∃ k : Nat, k ≤ s.size ∧ i = .int .i64 k ∧ BRow wr (w.heap.size + 1) (lowK s.data.toList k) ∧ Below (w.heap.size + 1) (w.alloc (.cells #[.int .i64 0, .string ⟨#[]⟩] 85)) wr) (fun i _ => s.size - (intOf i).toNat)
  case atStart => exact ⟨0, Nat.zero_le _, rfl, by rw [lowK_zero]; exact ⟨hrow.cell, hrow.free⟩, ((Below.refl _ _).alloc (by simp) _).drew⟩
  case round =>
    obtain ⟨k, hk, rfl, hr, hb⟩ := hrel
    clear hcv hrow
    have hlen := lowK_length s.data.toList k
    by_cases hlt : k < s.size
    · have hl : k < s.data.toList.length := by simpa using hlt
      have hl2 : k < (lowK s.data.toList k).length := by omega
      have hc := hr.cell k hl2
      have hf := hr.free k hl2
      rw [lowK_at _ _ hl hl2] at hc
      have Y : Hid (65 ≤ (s.data.toList[k].toNat : Int) ∧ (s.data.toList[k].toNat : Int) ≤ 90 → BRow (wr.setCell ⟨w.heap.size + 1, k, none⟩ (.int .u8 ((s.data.toList[k].toNat : Int) + 32))) (w.heap.size + 1) (lowK s.data.toList (k + 1))) := by
        intro ⟨u1, u2⟩
        have := hr.set k (lowU s.data.toList[k])
        rw [lowU_yes _ u1 u2] at this
        rw [lowK_succ _ _ hl]
        exact this
      have N : Hid (¬ (65 ≤ (s.data.toList[k].toNat : Int) ∧ (s.data.toList[k].toNat : Int) ≤ 90) → BRow wr (w.heap.size + 1) (lowK s.data.toList (k + 1))) := by
        intro u
        rw [lowK_keep _ _ hl u]
        exact hr
      generalize s.data.toList[k] = x at *
      clear hr hlen hl2 hl
      by_cases hU : 65 ≤ (x.toNat : Int) ∧ (x.toNat : Int) ≤ 90
      · have R : Hid (BRow (wr.setCell ⟨w.heap.size + 1, k, none⟩ (.int .u8 ((x.toNat : Int) - 65 + 97))) (w.heap.size + 1) (lowK s.data.toList (k + 1))) := by
          have := Y.out hU
          rw [show (x.toNat : Int) + 32 = (x.toNat : Int) - 65 + 97 from by omega] at this
          exact this
        obtain ⟨u1, u2⟩ := hU
        have d2 : decide ((x.toNat : Int) ≤ 90) = true := by simpa using u2
        clear Y N
        go_wp2
        go_roundw
        case rel => exact ⟨k + 1, by omega, by go_num, R.out, hb.setCell (Nat.le_refl _) _⟩
        case measure => simp [intOf]; omega
      · have R : Hid (BRow wr (w.heap.size + 1) (lowK s.data.toList (k + 1))) := N.out hU
        clear Y N
        by_cases u1 : 65 ≤ (x.toNat : Int)
        · have u2 : 90 < (x.toNat : Int) := by omega
          have d2 : decide ((x.toNat : Int) ≤ 90) = false := by simp; omega
          clear hU
          go_wp2
          go_roundw
          case rel => exact ⟨k + 1, by omega, by go_num, R.out, hb⟩
          case measure => simp [intOf]; omega
        · clear hU
          go_wp2
          go_roundw
          case rel => exact ⟨k + 1, by omega, by go_num, R.out, hb⟩
          case measure => simp [intOf]; omega
    · have e : lowK s.data.toList k = s.data.toList.map lowU := lowK_all _ _ (by simp; omega)
      rw [e] at hr
      have hback := hr.back (P := Tryz.prog) 25 9 5 s.size cap (by simp) Tryz.underlying25 Tryz.underlying5 Tryz.underlying9
      have HL : Hid ((⟨(s.data.toList.map lowU).toArray⟩ : ByteArray) = lowS s) := rfl
      generalize (⟨(s.data.toList.map lowU).toArray⟩ : ByteArray) = r at *
      clear hr e hlen
      have p0 : wr.cell? ⟨w.heap.size, 0, none⟩ = some (.int .i64 0) := by rw [hb.cell (p := ⟨w.heap.size, 0, none⟩) (Nat.lt_succ_self _)]; simp
      have p1 : wr.cell? ⟨w.heap.size, 1, none⟩ = some (.string ⟨#[]⟩) := by rw [hb.cell (p := ⟨w.heap.size, 1, none⟩) (Nat.lt_succ_self _)]; simp
      have f0 : wr.frozen? ⟨w.heap.size, 0, none⟩ = false := by rw [hb.frozen (p := ⟨w.heap.size, 0, none⟩) (Nat.lt_succ_self _)]; simp
      have f1 : wr.frozen? ⟨w.heap.size, 1, none⟩ = false := by rw [hb.frozen (p := ⟨w.heap.size, 1, none⟩) (Nat.lt_succ_self _)]; simp
      obtain ⟨q0, q1⟩ := two_set (v0 := .int .i64 0) (v1 := .string r) p0 p1
      go_wp2
      have kb : Below w.heap.size w wr := ((Below.refl _ _).alloc (Nat.le_refl _) _).trans (hb.mono (Nat.le_succ _))
      exact bodyPost_ret (v := .agg #[.int .i64 0, .string r]) (by simp [results, Tryz.results160, go_sem, q0, q1]) rfl ⟨by rw [HL.out], (kb.setCell (Nat.le_refl _) _).setCell (Nat.le_refl _) _⟩
set_option maxHeartbeats 400000 in
theorem implLower_long (s : ByteArray) (w : World) (h : 1000 < s.size) :
    Calls Tryz.prog 160 #[.string s] w fun e w' => e = .returned (.agg #[.int .i64 2, .string ⟨#[]⟩]) ∧ Below w.heap.size w w' := by
  have hh : (1000 : Int) < s.size := by omega
  go_enter Tryz.func160, Tryz.ntmps160
  go_wp2
  exact bodyPost_ret (v := .agg #[.int .i64 2, .string ⟨#[]⟩]) (by simp [results, Tryz.results160, go_sem]) rfl ⟨rfl, (Below.refl _ _).alloc (Nat.le_refl _) _⟩
end Go.Proofs.YtolkgnnjocmkdaaGreatDoor
/-
  Fields of results; what lies in memory behind a call.
-/
namespace Go.Proofs.YtolkgnnjocmkdaaGreatDoor
open Go.ChangeShapes Go.WideShapes Go.ChangeAt Go.RowKit Go.Sort
theorem f_field_code (c : Int) (s : ByteArray) (w : World) : (Instr.field 85 (.agg #[.int .i64 c, .string s]) 0).run Tryz.prog w = .ok (.int .i64 c) w := by kernel_rfl
theorem f_field_text (c : Int) (s : ByteArray) (w : World) : (Instr.field 85 (.agg #[.int .i64 c, .string s]) 1).run Tryz.prog w = .ok (.string s) w := by kernel_rfl
theorem f_keep {W W' : World} (hb : Below W.heap.size W W') {p : Addr} {v : Value} (h : W.cell? p = some v) : W'.cell? p = some v := by
  rw [hb.cell (block_lt_of_cell h)]; exact h
theorem f_keepA {W : World} {p : Addr} {v : Value} (o : Obj) (h : W.cell? p = some v) : (W.alloc o).cell? p = some v := f_keep ((Below.refl _ _).alloc (Nat.le_refl _) _) h
end Go.Proofs.YtolkgnnjocmkdaaGreatDoor
/-
  A map of texts to places, in memory: what is asked of it, what is laid into it, what goes from it.
-/
namespace Go.Proofs.YtolkgnnjocmkdaaGreatDoor
open Go.ChangeShapes Go.WideShapes Go.ChangeAt Go.RowKit Go.Maps
open Go.WideMaps (keyOf_string_mk)
theorem isKeyL (x : ByteArray) : WideAt.IsKeyLit (.string x.data.toList) := trivial
theorem hkeyed : Keyed Tryz.prog 9 := string_keyed Tryz.underlying9
theorem hzeroInt (w : World) : (zeroValue 3).run Tryz.prog w = .ok (.int .i64 0) w := by kernel_rfl
def keyL (x : ByteArray) : Lit := .string x.data.toList
theorem keyL_ne {x y : ByteArray} (h : x ≠ y) : keyL x ≠ keyL y := by
  intro e
  unfold keyL at e
  simp only [Lit.string.injEq] at e
  exact h (ByteArray.ext (Array.ext' e))
/-- Block B is a map of at most n entries that has p's places at p's names. -/
def NamesMap (w : World) (B n : Nat) (p : ByteArray → Option Nat) : Prop :=
  ∃ D : DataW Unit, w.ownsMap Tryz.prog 9 (plainElem Tryz.prog 3) B n D ∧ ∀ x : ByteArray, Maps.has D (keyL x) = (p x).isSome ∧ ∀ i, p x = some i → D.atKey (keyL x) (.lit (.int .i64 0)) = .lit (.int .i64 (i : Int))
theorem NamesMap.lt {w : World} {B n : Nat} {p : ByteArray → Option Nat} (h : NamesMap w B n p) : B < w.heap.size := by
  obtain ⟨D, h, _⟩ := h
  exact h.lt
theorem NamesMap.below {w w' : World} {B n : Nat} {p : ByteArray → Option Nat} (h : NamesMap w B n p) (hb : Below w.heap.size w w') : NamesMap w' B n p := by
  have hl := h.lt
  obtain ⟨D, ⟨es, clock, hh, r⟩, h2⟩ := h
  exact ⟨D, ⟨es, clock, by rw [hb.block B hl]; exact hh, r⟩, h2⟩
theorem NamesMap.setCell {w : World} {B n : Nat} {p : ByteArray → Option Nat} (h : NamesMap w B n p) {a : Addr} (ha : B ≠ a.block) (u : Value) : NamesMap (w.setCell a u) B n p := by
  obtain ⟨D, h, h2⟩ := h
  exact ⟨D, h.setCell ha u, h2⟩
theorem NamesMap.made (w : World) : NamesMap (w.alloc (.map #[] 0)) w.heap.size 0 (fun _ => none) :=
  ⟨.map [], World.ownsMap_made w _ _ _, fun x => ⟨rfl, fun i h => by cases h⟩⟩
theorem NamesMap.of {w : World} {B n : Nat} {p q : ByteArray → Option Nat} (h : NamesMap w B n p) (e : ∀ x, p x = q x) : NamesMap w B n q := by
  obtain rfl : p = q := funext e
  exact h
theorem turned_below {w w' : World} {B base : Nat} (h : w.mapTurned w' B) (hb : base ≤ B) : Below base w w' :=
  (Below.refl base w).grown h.grown (by
    obtain ⟨es, clock, es', clock', hh, rfl⟩ := h
    have := (Array.getElem?_eq_some_iff.1 hh).1
    omega) (fun q hq => by cases hq; exact hb)
section
variable {ops : Array Oper} {rest : List Oper} {o : Oper} {a : Act} {Q : Exit → Act → World → Prop}
theorem wpList_look_none (w : World) (hg : o.guard = none) (m x : Operand) (hop : o.op = Op.lookup 151 m x true) (B n : Nat) (p : ByteArray → Option Nat)
    (hm : a.eval m = .map (some B)) (hown : NamesMap w B n p) (key : ByteArray) (hx : a.eval x = .string key) (hk : key.size ≤ 1048576) (hp : p key = none)
    (hK : wpList Tryz.prog ops Q rest (a.put o.dst (.tuple #[.int .i64 0, .bool false])) w) : wpList Tryz.prog ops Q (o :: rest) a w := by
  obtain ⟨D, hD, hat⟩ := hown
  have h1 : Maps.has D (keyL key) = false := by rw [(hat key).1, hp]; rfl
  refine wpList_lookup_own_ok_int w hg m x 151 hop 9 3 .i64 hkeyed Tryz.underlying151 Tryz.underlying3 (hzeroInt w) B n D hm hD _ (keyL key) hx (keyOf_string_mk Tryz.underlying9 (by unfold maxLen; omega)) ?_
  intro c hc _
  rw [atKey_of_not_has h1] at hc
  obtain rfl : c = 0 := by simpa using hc.symm
  rw [h1]
  exact hK
theorem wpList_look_some (w : World) (hg : o.guard = none) (m x : Operand) (hop : o.op = Op.lookup 151 m x true) (B n : Nat) (p : ByteArray → Option Nat)
    (hm : a.eval m = .map (some B)) (hown : NamesMap w B n p) (key : ByteArray) (hx : a.eval x = .string key) (hk : key.size ≤ 1048576) (i : Nat) (hp : p key = some i)
    (hK : wpList Tryz.prog ops Q rest (a.put o.dst (.tuple #[.int .i64 (i : Int), .bool true])) w) : wpList Tryz.prog ops Q (o :: rest) a w := by
  obtain ⟨D, hD, hat⟩ := hown
  have h1 : Maps.has D (keyL key) = true := by rw [(hat key).1, hp]; rfl
  refine wpList_lookup_own_ok_int w hg m x 151 hop 9 3 .i64 hkeyed Tryz.underlying151 Tryz.underlying3 (hzeroInt w) B n D hm hD _ (keyL key) hx (keyOf_string_mk Tryz.underlying9 (by unfold maxLen; omega)) ?_
  intro c hc _
  rw [(hat key).2 i hp] at hc
  obtain rfl : c = (i : Int) := by simpa using hc.symm
  rw [h1]
  exact hK
theorem wpList_put (w : World) (hg : o.guard = none) (m x v : Operand) (hop : o.op = Op.mapUpdate 151 m x v) (B n : Nat) (p : ByteArray → Option Nat)
    (hm : a.eval m = .map (some B)) (hown : NamesMap w B n p) (hn : n ≤ 1048576) (key : ByteArray) (hx : a.eval x = .string key) (hk : key.size ≤ 1048576) (i : Nat) (hi : i ≤ 1048576) (hv : a.eval v = .int .i64 (i : Int)) (base : Nat) (hbase : base ≤ B)
    (hK : ∀ w', NamesMap w' B (n + 1) (fun y => if y = key then some i else p y) → Below base w w' → wpList Tryz.prog ops Q rest (a.put o.dst undef) w') : wpList Tryz.prog ops Q (o :: rest) a w := by
  obtain ⟨D, hD, hat⟩ := hown
  refine wpList_mapUpdate_in w hg m x v 151 hop 9 3 hkeyed Tryz.underlying151 _ B n D hm hD (by unfold maxLen; omega) _ _ (keyL key) hx hv (keyOf_string_mk Tryz.underlying9 (by unfold maxLen; omega)) (.lit (.int .i64 (i : Int))) [] (plainElem_int Tryz.underlying3 (WalkArith.wf_i64 (by omega))) ?_
  intro w' hD' ht
  refine hK w' ⟨_, hD', fun y => ?_⟩ (turned_below ht hbase)
  by_cases e : y = key
  · subst e
    simp only [if_true]
    refine ⟨has_put_same hD.isMap (isKeyL _) _, fun j hj => ?_⟩
    obtain rfl := Option.some.inj hj
    exact atKey_put_same hD.isMap (isKeyL _) _ _
  · simp only [if_neg e]
    rw [has_put_other (keyL_ne e), atKey_put_other (keyL_ne e)]
    exact hat y
theorem wpList_del (w : World) (hg : o.guard = none) (m x : Operand) (hop : o.op = Op.call { callee := Callee.builtin Builtin.delete, args := #[m, x], argTypes := #[151, 9] }) (B n : Nat) (p : ByteArray → Option Nat)
    (hm : a.eval m = .map (some B)) (hown : NamesMap w B n p) (key : ByteArray) (hx : a.eval x = .string key) (hk : key.size ≤ 1048576) (base : Nat) (hbase : base ≤ B)
    (hK : ∀ w', NamesMap w' B n (fun y => if y = key then none else p y) → Below base w w' → wpList Tryz.prog ops Q rest (a.put o.dst (.tuple #[])) w') : wpList Tryz.prog ops Q (o :: rest) a w := by
  obtain ⟨D, hD, hat⟩ := hown
  refine wpList_delete_own w hg m x 151 9 hop 3 hkeyed Tryz.underlying151 _ B n D hm hD _ (keyL key) hx (keyOf_string_mk Tryz.underlying9 (by unfold maxLen; omega)) ?_
  intro w' hD' ht
  refine hK w' ⟨_, hD', fun y => ?_⟩ (turned_below ht hbase)
  by_cases e : y = key
  · subst e
    simp only [if_true]
    exact ⟨has_del_same, fun j hj => by cases hj⟩
  · simp only [if_neg e]
    rw [has_del_other (keyL_ne e), atKey_del_other (keyL_ne e)]
    exact hat y
end
end Go.Proofs.YtolkgnnjocmkdaaGreatDoor
/-
  Names that are alike; what is asked ahead by all that look for a name.
-/
namespace Go.Proofs.YtolkgnnjocmkdaaGreatDoor
open Go.ChangeShapes Go.WideShapes Go.ChangeAt Go.RowKit Go.Sort
theorem lowS_size (s : ByteArray) : (lowS s).size = s.size := by
  show ((s.data.toList.map lowU).toArray).size = s.data.size
  rw [List.size_toArray, List.length_map, Array.length_toList]
set_option maxHeartbeats 1000000 in
theorem smallName_any (s : ByteArray) (w : World) (hs : s.size ≤ 1000) :
    Calls Tryz.prog 102 #[.string s] w fun e w' => e = .returned (.string (lowS s)) ∧ Below w.heap.size w w' := by
  have HC := implLower_any s w hs
  have hf := f_field_text
  generalize lowS s = q at *
  go_enter Tryz.func102, Tryz.ntmps102
  go_wp2_with fail
  refine HC.mono ?_
  rintro e w1 ⟨rfl, hb⟩
  go_wp2_with fail
  go_ret
  exact ⟨rfl, hb⟩
set_option maxHeartbeats 1000000 in
theorem l4Alike_any (s t : ByteArray) (w : World) (hs : s.size ≤ 1048576) (ht : t.size ≤ 1048576) :
    Calls Tryz.prog 174 #[.string s, .string t] w fun e w' => e = .returned (.bool (decide (lowS s = lowS t))) ∧ Below w.heap.size w w' := by
  have H1 : Hid (∀ w, Calls Tryz.prog 219 #[.string s] w fun e w' => e = .returned (.string (lowS s)) ∧ Below w.heap.size w w') := fun w => l1Lower_any s w hs
  have H2 : Hid (∀ w, Calls Tryz.prog 219 #[.string t] w fun e w' => e = .returned (.string (lowS t)) ∧ Below w.heap.size w w') := fun w => l1Lower_any t w ht
  by_cases he : lowS s = lowS t
  · have HE : Hid (decide (lowS s = lowS t) = true) := by show _ = _; simpa using he
    rw [he] at H1
    clear he
    generalize lowS t = q at *
    go_enter Tryz.func174, Tryz.ntmps174
    go_wp2_with fail
    refine (H1.out _).mono ?_
    rintro e w1 ⟨rfl, hb1⟩
    go_wp2_with fail
    refine (H2.out _).mono ?_
    rintro e w2 ⟨rfl, hb2⟩
    have hbb := hb1.trans (hb2.mono hb1.size)
    clear hb1 hb2
    go_wp2_with fail
    go_ret
    exact ⟨ret_bool HE.out.symm, hbb⟩
  · have HE : Hid (decide (lowS s = lowS t) = false) := by show _ = _; simpa using he
    have hq := hstr_ne he
    clear he
    generalize lowS t = q at *
    generalize lowS s = p at *
    go_enter Tryz.func174, Tryz.ntmps174
    go_wp2_with fail
    refine (H1.out _).mono ?_
    rintro e w1 ⟨rfl, hb1⟩
    go_wp2_with fail
    refine (H2.out _).mono ?_
    rintro e w2 ⟨rfl, hb2⟩
    have hbb := hb1.trans (hb2.mono hb1.size)
    clear hb1 hb2
    go_wp2_with fail
    go_ret
    exact ⟨ret_bool HE.out.symm, hbb⟩
set_option maxHeartbeats 1000000 in
theorem namedFault_any (w : World) (a : Option Addr) (cap : Nat) (l : List Hdr) (name : ByteArray) (hl : l.length ≤ 1048576) (hset : SetIs w) (hi : HdsIn w a l) :
    Calls Tryz.prog 101 #[.slice a l.length cap, .string name] w fun e w' => e = .returned (.int .i64 (askC l name)) ∧ Below w.heap.size w w' := by
  have HF := implHFault_any w a cap l hl hset hi
  have HS : Hid (SetIs w) := hset
  clear hi hset
  by_cases h0 : headsC l = 0
  · rw [h0] at HF
    generalize l.length = n at *
    cases hw : wordS name
    · have HE : Hid (askC l name = 5) := askC_text h0 hw
      have HW : Hid (wordS name = false) := hw
      clear h0 hw
      go_enter Tryz.func101, Tryz.ntmps101
      go_wp2_with fail
      refine HF.mono ?_
      rintro e w1 ⟨rfl, hb1⟩
      go_wp2_with fail
      refine (implIsWord_set name _ (HS.out.below hb1)).mono ?_
      rintro e w2 ⟨rfl, hb2⟩
      rw [HW.out]
      have hbb := hb1.trans (hb2.mono hb1.size)
      clear hb1 hb2
      go_wp2_with fail
      go_ret
      exact ⟨ret_int HE.out.symm, hbb⟩
    · have HE : Hid (askC l name = 0) := askC_word h0 hw
      have HW : Hid (wordS name = true) := hw
      clear h0 hw
      go_enter Tryz.func101, Tryz.ntmps101
      go_wp2_with fail
      refine HF.mono ?_
      rintro e w1 ⟨rfl, hb1⟩
      go_wp2_with fail
      refine (implIsWord_set name _ (HS.out.below hb1)).mono ?_
      rintro e w2 ⟨rfl, hb2⟩
      rw [HW.out]
      have hbb := hb1.trans (hb2.mono hb1.size)
      clear hb1 hb2
      go_wp2_with fail
      go_ret
      exact ⟨ret_int HE.out.symm, hbb⟩
  · have HE : Hid (askC l name = headsC l) := askC_bad h0
    generalize headsC l = fc at *
    generalize l.length = n at *
    go_enter Tryz.func101, Tryz.ntmps101
    go_wp2_with fail
    refine HF.mono ?_
    rintro e w1 ⟨rfl, hb1⟩
    go_wp2_with fail
    go_ret
    exact ⟨ret_int HE.out.symm, hb1⟩
set_option maxHeartbeats 1000000 in
theorem hclone_any (s : ByteArray) (w : World) (hs : s.size ≤ 1048576) :
    Calls Tryz.prog 104 #[.string s] w fun e w' => e = .returned (.string s) ∧ Below w.heap.size w w' := by
  go_enter Tryz.func104, Tryz.ntmps104
  go_wp2_with fail
  refine (Any.stringslite_Clone Tryz.laysM316 s _ (by omega)).mono ?_
  rintro e w1 ⟨rfl, hb⟩
  go_wp2
  go_ret
  exact ⟨rfl, hb⟩
theorem hdr_free {w w1 : World} {t : TypeId} (hb : Below (w.heap.size + 1) (w.alloc (.cells #[.string ⟨#[]⟩, .string ⟨#[]⟩] t)) w1) :
    w.heap.size < w1.heap.size ∧ w1.cell? ⟨w.heap.size, 0, none⟩ = some (.string ⟨#[]⟩) ∧ w1.cell? ⟨w.heap.size, 1, none⟩ = some (.string ⟨#[]⟩) ∧ w1.frozen? ⟨w.heap.size, 0, none⟩ = false ∧ w1.frozen? ⟨w.heap.size, 1, none⟩ = false ∧ Below w.heap.size w w1 := by
  have hz := hb.size
  simp only [World.size_alloc] at hz
  exact ⟨hz, by rw [hb.cell (p := ⟨w.heap.size, 0, none⟩) (Nat.lt_succ_self _)]; simp, by rw [hb.cell (p := ⟨w.heap.size, 1, none⟩) (Nat.lt_succ_self _)]; simp, by rw [hb.frozen (p := ⟨w.heap.size, 0, none⟩) (Nat.lt_succ_self _)]; simp, by rw [hb.frozen (p := ⟨w.heap.size, 1, none⟩) (Nat.lt_succ_self _)]; simp, ((Below.refl _ _).alloc (Nat.le_refl _) _).trans (hb.mono (Nat.le_succ _))⟩
set_option maxHeartbeats 1000000 in
theorem lineOf_any (n v : ByteArray) (w : World) (hn : n.size ≤ 1048576) (hv : v.size ≤ 1048576) :
    Calls Tryz.prog 65 #[.string n, .string v] w fun e w' => e = .returned (.agg #[.string n, .string v]) ∧ Below w.heap.size w w' := by
  go_enter Tryz.func65, Tryz.ntmps65
  go_wp2_with fail
  refine (hclone_any n _ hn).mono ?_
  rintro e w1 ⟨rfl, hb1⟩
  simp only [World.size_alloc] at hb1
  go_wp2_with fail
  refine (hclone_any v _ hv).mono ?_
  rintro e w2 ⟨rfl, hb2⟩
  have hz1 : w.heap.size + 1 ≤ w1.heap.size := by have := hb1.size; rwa [World.size_alloc] at this
  obtain ⟨hz2, q0, q1, f0, f1, kb⟩ := hdr_free (hb1.trans (hb2.mono hz1))
  obtain ⟨r0, r1⟩ := two_set (v0 := .string n) (v1 := .string v) q0 q1
  clear hb1 hb2 hz1
  go_wp2_with fail
  exact bodyPost_ret (v := .agg #[.string n, .string v]) (by simp [results, Tryz.results65, go_sem, r0, r1]) rfl ⟨rfl, (kb.setCell (Nat.le_refl _) _).setCell (Nat.le_refl _) _⟩
end Go.Proofs.YtolkgnnjocmkdaaGreatDoor
/-
  The room of a TextResult behind a call.
-/
namespace Go.Proofs.YtolkgnnjocmkdaaGreatDoor
open Go.ChangeShapes Go.WideShapes Go.ChangeAt Go.RowKit
theorem text_room {w w1 : World} (hb : Below (w.heap.size + 1) (w.alloc (.cells #[.int .i64 0, .string ⟨#[]⟩] 85)) w1) :
    w.heap.size < w1.heap.size ∧ w1.cell? ⟨w.heap.size, 0, none⟩ = some (.int .i64 0) ∧ w1.cell? ⟨w.heap.size, 1, none⟩ = some (.string ⟨#[]⟩) ∧ w1.frozen? ⟨w.heap.size, 0, none⟩ = false ∧ w1.frozen? ⟨w.heap.size, 1, none⟩ = false ∧ Below w.heap.size w w1 := by
  have hz := hb.size
  simp only [World.size_alloc] at hz
  exact ⟨hz, by rw [hb.cell (p := ⟨w.heap.size, 0, none⟩) (Nat.lt_succ_self _)]; simp, by rw [hb.cell (p := ⟨w.heap.size, 1, none⟩) (Nat.lt_succ_self _)]; simp, by rw [hb.frozen (p := ⟨w.heap.size, 0, none⟩) (Nat.lt_succ_self _)]; simp, by rw [hb.frozen (p := ⟨w.heap.size, 1, none⟩) (Nat.lt_succ_self _)]; simp, ((Below.refl _ _).alloc (Nat.le_refl _) _).trans (hb.mono (Nat.le_succ _))⟩
end Go.Proofs.YtolkgnnjocmkdaaGreatDoor
/-
  What the model of PackHeaders tells.
-/
namespace Go.Proofs.YtolkgnnjocmkdaaGreatDoor
open Go.ChangeShapes Go.WideShapes Go.ChangeAt Go.RowKit Go.Sort
theorem HdsIn.ok {w : World} {a : Option Addr} {l : List Hdr} (h : HdsIn w a l) {k : Nat} {r : Hdr} (hr : l[k]? = some r) : ∃ b off, a = some ⟨b, off, none⟩ ∧ HeadsAt w b off l := by
  rcases h with h | h
  · subst h; simp at hr
  · exact h
theorem line_app (o n v : ByteArray) : (o ++ n ++ ⟨#[58, 32]⟩ ++ v ++ ⟨#[13, 10]⟩ : ByteArray).data.toList = o.data.toList ++ lineL ⟨n, v⟩ := by
  simp only [happ_list, lineL, List.append_assoc]
theorem line_app2 (o n v : ByteArray) : (o ++ (n ++ ⟨#[58, 32]⟩ ++ v ++ ⟨#[13, 10]⟩) : ByteArray).data.toList = o.data.toList ++ lineL ⟨n, v⟩ := by
  simp only [happ_list, lineL, List.append_assoc]
end Go.Proofs.YtolkgnnjocmkdaaGreatDoor
/-
  What PackHeaders and its model answer.
-/
namespace Go.Proofs.YtolkgnnjocmkdaaGreatDoor
open Go.ChangeShapes Go.WideShapes Go.ChangeAt Go.RowKit Go.Sort
end Go.Proofs.YtolkgnnjocmkdaaGreatDoor
/-
  What firstPlaces and linesNamed answer.
-/
namespace Go.Proofs.YtolkgnnjocmkdaaGreatDoor
open Go.ChangeShapes Go.WideShapes Go.ChangeAt Go.RowKit Go.Sort
theorem firstAt_known {l : List Hdr} {r : Hdr} {j : Nat} (h : firstAt (lowS r.name) l = some j) (x : ByteArray) : firstAt x l = firstAt x (l ++ [r]) := by
  rw [firstAt_snoc]
  cases c : firstAt x l with
  | some i => rfl
  | none =>
    by_cases e : lowS r.name = x
    · subst e; rw [h] at c; cases c
    · simp only [if_neg e]
theorem firstAt_new {l : List Hdr} {r : Hdr} (h : firstAt (lowS r.name) l = none) (x : ByteArray) : (if x = lowS r.name then some l.length else firstAt x l) = firstAt x (l ++ [r]) := by
  rw [firstAt_snoc]
  by_cases e : x = lowS r.name
  · subst e
    rw [if_pos rfl, h]
    simp
  · rw [if_neg e]
    cases c : firstAt x l with
    | some i => rfl
    | none => simp only [if_neg (fun q => e (Eq.symm q))]
set_option maxRecDepth 100000 in
set_option maxHeartbeats 4000000 in
theorem firstPlaces_any {m : Nat} (w : World) (a : Option Addr) (cap : Nat) (l : List Hdr) (h20 : l.length ≤ m) (hz : ∀ (i : Nat) r, l[i]? = some r → r.name.size ≤ 64) (hi : HdsIn w a l) (hm : m ≤ 1000 := by decide) :
    Calls Tryz.prog 103 #[.slice a l.length cap] w fun e w' => e = .returned (.map (some w.heap.size)) ∧ NamesMap w' w.heap.size m (fun x => firstAt x l) ∧ Below w.heap.size w w' := by
  have HI : Hid (HdsIn w a l) := hi
  have HZ : Hid (∀ (i : Nat) r, l[i]? = some r → r.name.size ≤ 64) := hz
  clear hi hz
  generalize hn : l.length = n at *
  have HN : Hid (l.length = n) := hn
  clear hn
  have hmm := @run_makeMap Tryz.prog
  go_enter Tryz.func103, Tryz.ntmps103
  go_wp2_with fail
  go_loopw [12] (fun i wr => ∃ (k : Nat), k ≤ n ∧ i = .int .i64 k ∧ NamesMap wr w.heap.size k (fun x => firstAt x (l.take k)) ∧ Below w.heap.size w wr) (fun i _ => n - (intOf i).toNat)
  case atStart => exact ⟨0, Nat.zero_le _, rfl, NamesMap.made w, (Below.refl _ _).alloc (Nat.le_refl _) _⟩
  case round =>
    obtain ⟨k, hk, rfl, hm, hb⟩ := hrel
    have HM : Hid (NamesMap wr w.heap.size k (fun x => firstAt x (l.take k))) := hm
    clear hm
    by_cases hlt : k < n
    · obtain ⟨r, hr⟩ : ∃ r, l[k]? = some r := ⟨l[k]'(by have := HN.out; omega), List.getElem?_eq_getElem _⟩
      obtain ⟨b, off, rfl, hat⟩ := HI.out.ok hr
      obtain ⟨p1, p3⟩ := (hat.keep hb) k r hr
      have z1 := HZ.out k r hr
      have HK : Hid (l.take (k + 1) = l.take k ++ [r]) := take_hdr hr
      have hlk : Hid ((l.take k).length = k) := by show _ = _; rw [List.length_take]; have := HN.out; omega
      have gk : (k : Int) < n := by omega
      clear hr hat HI HZ
      have FS := fun j => @firstAt_known (l.take k) r j
      have FN := @firstAt_new (l.take k) r
      obtain ⟨rn, rv⟩ := r
      simp only at p1 p3 z1 FS FN
      rw [hlk.out] at FN
      have SN := fun w => smallName_any rn w (by omega)
      have sz := lowS_size rn
      generalize lowS rn = q at *
      have HSN : Hid (∀ w, Calls Tryz.prog 102 #[.string rn] w fun e w' => e = .returned (.string q) ∧ Below w.heap.size w w') := SN
      clear SN
      cases hq : firstAt q (l.take k) with
      | some j =>
        have HX : Hid (∀ x, firstAt x (l.take k) = firstAt x (l.take (k + 1))) := fun x => by rw [HK.out]; exact FS j hq x
        have HQ : Hid (firstAt q (l.take k) = some j) := hq
        clear hq FS FN HK
        go_wp2_with fail
        refine (HSN.out _).mono ?_
        rintro e w2 ⟨rfl, hb2⟩
        obtain ⟨_, _, _, kb⟩ := hdr_room hb2
        have HM2 : Hid (NamesMap w2 w.heap.size k (fun x => firstAt x (l.take k))) := HM.out.below kb
        have HB2 : Hid (Below w.heap.size w w2) := hb.trans (kb.mono hb.size)
        clear hb2 kb hb HM p1 p3
        go_wp2_with (at_lookup; refine wpList_look_some _ rfl _ _ rfl w.heap.size k _ rfl HM2.out q rfl (by omega) j HQ.out ?_)
        go_roundw
        case rel => exact ⟨k + 1, by omega, by go_num, NamesMap.of (by obtain ⟨D, h1, h2⟩ := HM2.out; exact ⟨D, h1.mono (Nat.le_succ _), h2⟩) HX.out, HB2.out⟩
        case measure => simp [intOf]; omega
      | none =>
        have HX : Hid (∀ x, (if x = q then some k else firstAt x (l.take k)) = firstAt x (l.take (k + 1))) := fun x => by rw [HK.out]; exact FN hq x
        have HQ : Hid (firstAt q (l.take k) = none) := hq
        clear hq FS FN HK
        go_wp2_with fail
        refine (HSN.out _).mono ?_
        rintro e w2 ⟨rfl, hb2⟩
        obtain ⟨_, _, _, kb⟩ := hdr_room hb2
        have HM2 : Hid (NamesMap w2 w.heap.size k (fun x => firstAt x (l.take k))) := HM.out.below kb
        have HB2 : Hid (Below w.heap.size w w2) := hb.trans (kb.mono hb.size)
        clear hb2 kb hb HM p1 p3
        go_wp2_with (first | (at_lookup; refine wpList_look_none _ rfl _ _ rfl w.heap.size k _ rfl HM2.out q rfl (by omega) HQ.out ?_) | (at_mapUpdate; refine wpList_put _ rfl _ _ _ rfl w.heap.size k _ rfl HM2.out (by omega) q rfl (by omega) k (by omega) rfl w.heap.size (Nat.le_refl _) ?_; intro w3 HM3 hb3))
        go_roundw
        case rel => exact ⟨k + 1, by omega, by go_num, HM3.of HX.out, HB2.out.trans hb3⟩
        case measure => simp [intOf]; omega
    · have HX : Hid (NamesMap wr w.heap.size m (fun x => firstAt x l)) := by
        have e : l.take k = l := List.take_of_length_le (by have := HN.out; omega)
        have := HM.out
        rw [e] at this
        obtain ⟨D, h1, h2⟩ := this
        exact ⟨D, h1.mono (by omega), h2⟩
      clear HM
      go_wp2_with fail
      go_ret
      exact ⟨rfl, HX.out, hb⟩
/-- What is left of the lines: those whose names the map has. -/
def keptH (p : ByteArray → Option Nat) (l : List Hdr) : List Hdr := l.filter fun r => (p (lowS r.name)).isSome
theorem keptH_yes {p : ByteArray → Option Nat} {r : Hdr} {i : Nat} (l : List Hdr) (h : p (lowS r.name) = some i) : keptH p (l ++ [r]) = keptH p l ++ [r] := by simp [keptH, h]
theorem keptH_no {p : ByteArray → Option Nat} {r : Hdr} (l : List Hdr) (h : p (lowS r.name) = none) : keptH p (l ++ [r]) = keptH p l := by simp [keptH, h]
theorem keptH_len (p : ByteArray → Option Nat) (l : List Hdr) : (keptH p l).length ≤ l.length := List.length_filter_le _ _
def KeptRes (base : Nat) (L : List Hdr) (e : Ending) (w : World) : Prop := ∃ v, e = .returned v ∧ OwnH w base v L
theorem KeptRes.mk {base : Nat} {L M : List Hdr} {w : World} {v : Value} (h : M = L) (ho : OwnH w base v L) : KeptRes base M (.returned v) w := ⟨v, rfl, h ▸ ho⟩
set_option maxRecDepth 100000 in
set_option maxHeartbeats 8000000 in
theorem linesNamed_any {m : Nat} (w : World) (a : Option Addr) (cap : Nat) (l : List Hdr) (B : Nat) (p : ByteArray → Option Nat) (h20 : l.length ≤ m) (hz : ∀ (i : Nat) r, l[i]? = some r → r.name.size ≤ 64 ∧ r.value.size ≤ 200) (hi : HdsIn w a l) (hm : NamesMap w B m p) (hm9 : m ≤ 1000 := by decide) :
    Calls Tryz.prog 177 #[.slice a l.length cap, .map (some B)] w fun e w' => KeptRes w.heap.size (keptH p l) e w' ∧ Below w.heap.size w w' := by
  have HI : Hid (HdsIn w a l) := hi
  have HZ : Hid (∀ (i : Nat) r, l[i]? = some r → r.name.size ≤ 64 ∧ r.value.size ≤ 200) := hz
  have HM : Hid (NamesMap w B m p) := hm
  clear hi hz hm
  generalize hn : l.length = n at *
  have HN : Hid (l.length = n) := hn
  clear hn
  go_enter Tryz.func177, Tryz.ntmps177
  go_wp2_with fail
  go_loopw [5, 12] (fun v i wr => ∃ (k : Nat), k ≤ n ∧ i = .int .i64 k ∧ OwnH wr w.heap.size v (keptH p (l.take k)) ∧ Below w.heap.size w wr) (fun _ i _ => n - (intOf i).toNat)
  case atStart => exact ⟨0, Nat.zero_le _, rfl, OwnH.nil _ _, Below.refl _ _⟩
  case round =>
    obtain ⟨k, hk, rfl, ho, hb⟩ := hrel
    have HO : Hid (OwnH wr w.heap.size u5 (keptH p (l.take k))) := ho
    have hzw := hb.size
    clear ho
    by_cases hlt : k < n
    · obtain ⟨r, hr⟩ : ∃ r, l[k]? = some r := ⟨l[k]'(by have := HN.out; omega), List.getElem?_eq_getElem _⟩
      obtain ⟨b, off, rfl, hat⟩ := HI.out.ok hr
      obtain ⟨p1, p3⟩ := (hat.keep hb) k r hr
      obtain ⟨z1, z2⟩ := HZ.out k r hr
      have HK : Hid (l.take (k + 1) = l.take k ++ [r]) := take_hdr hr
      have hlk : (keptH p (l.take k)).length ≤ 1000 := Nat.le_trans (keptH_len _ _) (by rw [List.length_take]; omega)
      have gk : (k : Int) < n := by omega
      have HMr : Hid (NamesMap wr B m p) := HM.out.below hb
      clear hr hat HI HZ
      have KY := fun i => @keptH_yes p r i (l.take k)
      have KN := @keptH_no p r (l.take k)
      obtain ⟨rn, rv⟩ := r
      simp only at p1 p3 z1 z2 KY KN
      have SN := fun w => smallName_any rn w (by omega)
      have sz := lowS_size rn
      generalize lowS rn = q at *
      have HSN : Hid (∀ w, Calls Tryz.prog 102 #[.string rn] w fun e w' => e = .returned (.string q) ∧ Below w.heap.size w w') := SN
      clear SN
      cases hq : p q with
      | none =>
        have HX : Hid (keptH p (l.take (k + 1)) = keptH p (l.take k)) := by show _ = _; rw [HK.out]; exact KN hq
        have HQ : Hid (p q = none) := hq
        clear hq KY KN HK
        generalize keptH p (l.take k) = L at *
        go_wp2_with fail
        refine (HSN.out _).mono ?_
        rintro e w2 ⟨rfl, hb2⟩
        obtain ⟨_, _, _, kb⟩ := hdr_room hb2
        have HM2 : Hid (NamesMap w2 B m p) := HMr.out.below kb
        have HO2 : Hid (OwnH w2 w.heap.size u5 L) := HO.out.below kb
        have HB2 : Hid (Below w.heap.size w w2) := hb.trans (kb.mono hb.size)
        clear hb2 kb hb HMr p1 p3 HO
        go_wp2_with (at_lookup; refine wpList_look_none _ rfl _ _ rfl B m p rfl HM2.out q rfl (by omega) HQ.out ?_)
        go_roundw
        case rel => exact ⟨k + 1, by omega, by go_num, by rw [HX.out]; exact HO2.out, HB2.out⟩
        case measure => simp [intOf]; omega
      | some j =>
        have HX : Hid (keptH p (l.take (k + 1)) = keptH p (l.take k) ++ [⟨rn, rv⟩]) := by show _ = _; rw [HK.out]; exact KY j hq
        have HQ : Hid (p q = some j) := hq
        clear hq KY KN HK
        generalize keptH p (l.take k) = L at *
        go_wp2_with fail
        refine (HSN.out _).mono ?_
        rintro e w2 ⟨rfl, hb2⟩
        obtain ⟨hz2, c0, c1, kb⟩ := hdr_room hb2
        have HM2 : Hid (NamesMap w2 B m p) := HMr.out.below kb
        have HO2 : Hid (OwnH w2 w.heap.size u5 L) := HO.out.below kb
        have HB2 : Hid (Below w.heap.size w w2) := hb.trans (kb.mono hb.size)
        clear hb2 kb hb HMr p1 p3 HO
        go_wp2_with (at_lookup; refine wpList_look_some _ rfl _ _ rfl B m p rfl HM2.out q rfl (by omega) j HQ.out ?_)
        refine (lineOf_any rn rv _ (by omega) (by omega)).mono ?_
        rintro e w3 ⟨rfl, hb3⟩
        have HO3 : Hid (OwnH w3 w.heap.size u5 L) := HO2.out.below hb3
        have HB3 : Hid (Below w.heap.size w w3) := HB2.out.trans (hb3.mono HB2.out.size)
        have hz3 := HB3.out.size
        clear hb3 HM2 HO2 HB2 c0 c1
        go_wp2_with (at_builtin; refine wpList_append_hdr _ rfl (.tmp 25) (.tmp 31) rfl w.heap.size _ L rn rv rfl rfl HO3.out (by omega) hz3 ?_; intro v4 w4 HO4 hb4 hz4 hk4)
        go_roundw
        case rel => exact ⟨k + 1, by omega, by go_num, by rw [HX.out]; exact HO4, HB3.out.trans hb4⟩
        case measure => simp [intOf]; omega
    · have HX : Hid (keptH p l = keptH p (l.take k)) := by
        show _ = _
        rw [List.take_of_length_le (by have := HN.out; omega)]
      go_wp2_with fail
      go_ret
      exact ⟨KeptRes.mk HX.out HO.out, hb⟩
end Go.Proofs.YtolkgnnjocmkdaaGreatDoor
/-
  What DropHeader and its model answer.
-/
namespace Go.Proofs.YtolkgnnjocmkdaaGreatDoor
open Go.ChangeShapes Go.WideShapes Go.ChangeAt Go.RowKit Go.Sort
/-- A result: a code and head lines in memory of the call's own. -/
def HRes (c : Int) (L : List Hdr) (base : Nat) (e : Ending) (w : World) : Prop := ∃ v, e = .returned (.agg #[.int .i64 c, v]) ∧ OwnH w base v L
theorem HRes.mk {c d : Int} {L M : List Hdr} {base : Nat} {w : World} {v : Value} (h : c = d ∧ L = M) (ho : OwnH w base v M) : HRes c L base (.returned (.agg #[.int .i64 d, v])) w := ⟨v, by rw [h.1], by rw [h.2]; exact ho⟩
theorem ownH_set {w : World} {base b o : Nat} {v u : Value} {l : List Hdr} (h : OwnH w base v l) (hb : b < base) : OwnH (w.setCell ⟨b, o, none⟩ u) base v l := by
  obtain ⟨h1, h2⟩ := h
  refine ⟨h1, ?_⟩
  rcases h2 with h2 | ⟨g, c, cur, e, hg, hh, hrest⟩
  · exact .inl h2
  · exact .inr ⟨g, c, cur, e, hg, by rw [RowKit.Below.heap_setCell _ _ _ _ (by show g ≠ b; omega)]; exact hh, hrest⟩
theorem heads_room {w w1 : World} (hb : Below (w.heap.size + 1) (w.alloc (.cells #[.int .i64 0, .slice none 0 0] 157)) w1) :
    w.heap.size < w1.heap.size ∧ w1.cell? ⟨w.heap.size, 0, none⟩ = some (.int .i64 0) ∧ w1.cell? ⟨w.heap.size, 1, none⟩ = some (.slice none 0 0) ∧ w1.frozen? ⟨w.heap.size, 0, none⟩ = false ∧ w1.frozen? ⟨w.heap.size, 1, none⟩ = false ∧ Below w.heap.size w w1 := by
  have hz := hb.size
  simp only [World.size_alloc] at hz
  exact ⟨hz, by rw [hb.cell (p := ⟨w.heap.size, 0, none⟩) (Nat.lt_succ_self _)]; simp, by rw [hb.cell (p := ⟨w.heap.size, 1, none⟩) (Nat.lt_succ_self _)]; simp, by rw [hb.frozen (p := ⟨w.heap.size, 0, none⟩) (Nat.lt_succ_self _)]; simp, by rw [hb.frozen (p := ⟨w.heap.size, 1, none⟩) (Nat.lt_succ_self _)]; simp, ((Below.refl _ _).alloc (Nat.le_refl _) _).trans (hb.mono (Nat.le_succ _))⟩
set_option maxRecDepth 100000 in
set_option maxHeartbeats 8000000 in
theorem l4Drop_any (w : World) (a : Option Addr) (cap : Nat) (l : List Hdr) (name : ByteArray) (h20 : l.length ≤ 20) (hz : ∀ (i : Nat) r, l[i]? = some r → r.name.size ≤ 64) (hnm : name.size ≤ 64) (hi : HdsIn w a l) :
    Calls Tryz.prog 123 #[.slice a l.length cap, .string name] w fun e w' => KeptRes w.heap.size (dropH (lowS name) l) e w' ∧ Below w.heap.size w w' := by
  have HI : Hid (HdsIn w a l) := hi
  have HZ : Hid (∀ (i : Nat) r, l[i]? = some r → r.name.size ≤ 64) := hz
  clear hi hz
  generalize hn : l.length = n at *
  have HN : Hid (l.length = n) := hn
  clear hn
  go_enter Tryz.func123, Tryz.ntmps123
  go_wp2_with fail
  go_loopw [5, 6] (fun v i wr => ∃ (k : Nat), k ≤ n ∧ i = .int .i64 k ∧ OwnH wr w.heap.size v (dropH (lowS name) (l.take k)) ∧ Below w.heap.size w wr) (fun _ i _ => n - (intOf i).toNat)
  case atStart => exact ⟨0, Nat.zero_le _, rfl, OwnH.made0 w w.heap.size (Nat.le_refl _), (Below.refl _ _).alloc (Nat.le_refl _) _⟩
  case round =>
    obtain ⟨k, hk, rfl, ho, hb⟩ := hrel
    have HO : Hid (OwnH wr w.heap.size u5 (dropH (lowS name) (l.take k))) := ho
    have hzw := hb.size
    clear ho
    by_cases hlt : k < n
    · obtain ⟨r, hr⟩ : ∃ r, l[k]? = some r := ⟨l[k]'(by have := HN.out; omega), List.getElem?_eq_getElem _⟩
      obtain ⟨b, off, rfl, hat⟩ := HI.out.ok hr
      obtain ⟨p1, p3⟩ := (hat.keep hb) k r hr
      have z1 := HZ.out k r hr
      have HK : Hid (l.take (k + 1) = l.take k ++ [r]) := take_hdr hr
      have hlk : (dropH (lowS name) (l.take k)).length ≤ 20 := Nat.le_trans (dropH_len _ _) (by rw [List.length_take]; omega)
      have gk : (k : Int) < n := by omega
      clear hr hat HI HZ
      have KY := @dropH_yes (lowS name) r (l.take k)
      have KN := @dropH_no (lowS name) r (l.take k)
      obtain ⟨rn, rv⟩ := r
      simp only at p1 p3 z1 KY KN
      have SA := fun w => l4Alike_any rn name w (by omega) (by omega)
      by_cases he : lowS rn = lowS name
      · have HX : Hid (dropH (lowS name) (l.take (k + 1)) = dropH (lowS name) (l.take k)) := by show _ = _; rw [HK.out]; exact KY he
        have HSA : Hid (∀ w, Calls Tryz.prog 174 #[.string rn, .string name] w fun e w' => e = .returned (.bool true) ∧ Below w.heap.size w w') := by
          rw [show decide (lowS rn = lowS name) = true from by simpa using he] at SA
          exact SA
        clear SA KY KN HK he
        generalize dropH (lowS name) (l.take k) = L at *
        go_wp2_with fail
        refine (HSA.out _).mono ?_
        rintro e w2 ⟨rfl, hb2⟩
        have HO2 : Hid (OwnH w2 w.heap.size u5 L) := HO.out.below hb2
        have HB2 : Hid (Below w.heap.size w w2) := hb.trans (hb2.mono hb.size)
        clear hb2 hb HO p1 p3
        go_wp2_with fail
        go_roundw
        case rel => exact ⟨k + 1, by omega, by go_num, by rw [HX.out]; exact HO2.out, HB2.out⟩
        case measure => simp [intOf]; omega
      · have HX : Hid (dropH (lowS name) (l.take (k + 1)) = dropH (lowS name) (l.take k) ++ [⟨rn, rv⟩]) := by show _ = _; rw [HK.out]; exact KN he
        have HSA : Hid (∀ w, Calls Tryz.prog 174 #[.string rn, .string name] w fun e w' => e = .returned (.bool false) ∧ Below w.heap.size w w') := by
          rw [show decide (lowS rn = lowS name) = false from by simpa using he] at SA
          exact SA
        clear SA KY KN HK he
        generalize dropH (lowS name) (l.take k) = L at *
        go_wp2_with fail
        refine (HSA.out _).mono ?_
        rintro e w2 ⟨rfl, hb2⟩
        have HO2 : Hid (OwnH w2 w.heap.size u5 L) := HO.out.below hb2
        have HB2 : Hid (Below w.heap.size w w2) := hb.trans (hb2.mono hb.size)
        have p1 := hkeep hb2 p1
        have p3 := hkeep hb2 p3
        have hz2 := HB2.out.size
        clear hb2 hb HO
        go_wp2_with (at_builtin; refine wpList_append_hdr _ rfl (.tmp 22) (.tmp 27) rfl w.heap.size _ L rn rv rfl rfl HO2.out (by omega) hz2 ?_; intro v4 w4 HO4 hb4 hz4 hk4)
        go_roundw
        case rel => exact ⟨k + 1, by omega, by go_num, by rw [HX.out]; exact HO4, HB2.out.trans hb4⟩
        case measure => simp [intOf]; omega
    · have HX : Hid (dropH (lowS name) l = dropH (lowS name) (l.take k)) := by
        show _ = _
        rw [List.take_of_length_le (by have := HN.out; omega)]
      go_wp2_with fail
      go_ret
      exact ⟨KeptRes.mk HX.out HO.out, hb⟩
theorem dropL_bad {l : List Hdr} {name : ByteArray} (h : askC l name ≠ 0) : dropL l name = [] := by unfold dropL; rw [if_neg h]
theorem dropL_ok {l : List Hdr} {name : ByteArray} (h : askC l name = 0) : dropL l name = dropH (lowS name) l := by unfold dropL; rw [if_pos h]
theorem dropL_len (l : List Hdr) (name : ByteArray) : (dropL l name).length ≤ 20 := by
  by_cases h : askC l name = 0
  · rw [dropL_ok h]
    have := (headsC_zero (askC_zero h).1).1
    exact Nat.le_trans (dropH_len _ _) this
  · rw [dropL_bad h]; simp
theorem asked {l : List Hdr} {name : ByteArray} (h : askC l name = 0) : l.length ≤ 20 ∧ (∀ (i : Nat) r, l[i]? = some r → r.name.size ≤ 64 ∧ r.value.size ≤ 200) ∧ name.size ≤ 64 := by
  obtain ⟨h0, hw⟩ := askC_zero h
  obtain ⟨h20, hf⟩ := headsC_zero h0
  exact ⟨h20, fun i r hr => by obtain ⟨x1, x2, _⟩ := faultH_zero (hf i r hr); exact ⟨hword_max x1, x2⟩, hword_max hw⟩
theorem keptH_drop (x : ByteArray) (l : List Hdr) : keptH (fun y => if y = x then none else firstAt y l) l = dropH x l := by
  unfold keptH dropH
  refine List.filter_congr fun r hr => ?_
  by_cases e : lowS r.name = x
  · simp [e]
  · simp only [e, not_false_eq_true, decide_true]
    cases c : firstAt (lowS r.name) l with
    | some i => rfl
    | none => exact absurd rfl (firstAt_none c r hr)
set_option maxRecDepth 100000 in
set_option maxHeartbeats 4000000 in
theorem implDrop_any (w : World) (a : Option Addr) (cap : Nat) (l : List Hdr) (name : ByteArray) (hl : l.length ≤ 1048576) (hset : SetIs w) (hi : HdsIn w a l) :
    Calls Tryz.prog 126 #[.slice a l.length cap, .string name] w fun e w' => HRes (askC l name) (dropL l name) w.heap.size e w' ∧ Below w.heap.size w w' := by
  have HA : Hid (∀ W, Below w.heap.size w W → Calls Tryz.prog 101 #[.slice a l.length cap, .string name] W fun e w' => e = .returned (.int .i64 (askC l name)) ∧ Below W.heap.size W w') := fun W hb => namedFault_any W a cap l name hl (hset.below hb) (hi.keep hb)
  by_cases h0 : askC l name = 0
  · obtain ⟨h20, hz, hnm⟩ := asked h0
    have HP : Hid (∀ W, Below w.heap.size w W → Calls Tryz.prog 103 #[.slice a l.length cap] W fun e w' => e = .returned (.map (some W.heap.size)) ∧ NamesMap w' W.heap.size 20 (fun x => firstAt x l) ∧ Below W.heap.size W w') := fun W hb => firstPlaces_any W a cap l h20 (fun i r hr => (hz i r hr).1) (hi.keep hb)
    have HS : Hid (∀ W, Calls Tryz.prog 102 #[.string name] W fun e w' => e = .returned (.string (lowS name)) ∧ Below W.heap.size W w') := fun W => smallName_any name W (by omega)
    have HK : Hid (∀ W B, Below w.heap.size w W → NamesMap W B 20 (fun y => if y = lowS name then none else firstAt y l) → Calls Tryz.prog 177 #[.slice a l.length cap, .map (some B)] W fun e w' => KeptRes W.heap.size (dropL l name) e w' ∧ Below W.heap.size W w') := fun W B hb hm => by
      rw [dropL_ok h0, ← keptH_drop]
      exact linesNamed_any W a cap l B _ h20 hz (hi.keep hb) hm
    have sz := lowS_size name
    rw [h0] at HA ⊢
    clear hi hz h0 h20 hset
    generalize dropL l name = L at *
    generalize l.length = n at *
    generalize lowS name = q at *
    go_enter Tryz.func126, Tryz.ntmps126
    go_wp2_with fail
    refine (HA.out _ ((Below.refl _ _).alloc (Nat.le_refl _) _)).mono ?_
    rintro e w1 ⟨rfl, hb1⟩
    rw [World.size_alloc] at hb1
    have HB1 : Hid (Below (w.heap.size + 1) (w.alloc (.cells #[.int .i64 0, .slice none 0 0] 157)) w1) := hb1
    have hz1 : w.heap.size + 1 ≤ w1.heap.size := by have := hb1.size; rwa [World.size_alloc] at this
    clear hb1 HA
    go_wp2_with fail
    refine (HP.out _ (heads_room HB1.out).2.2.2.2.2).mono ?_
    rintro e w2 ⟨rfl, hm2, hb2⟩
    have HB2 : Hid (Below (w.heap.size + 1) (w.alloc (.cells #[.int .i64 0, .slice none 0 0] 157)) w2) := HB1.out.trans (hb2.mono hz1)
    have hz2 : w.heap.size + 1 ≤ w2.heap.size := Nat.le_trans hz1 hb2.size
    have HM2 : Hid (NamesMap w2 w1.heap.size 20 (fun x => firstAt x l)) := hm2
    clear hb2 HB1 hm2 HP
    generalize w1.heap.size = B at *
    clear w1
    go_wp2_with fail
    refine (HS.out _).mono ?_
    rintro e w3 ⟨rfl, hb3⟩
    have HB3 : Hid (Below (w.heap.size + 1) (w.alloc (.cells #[.int .i64 0, .slice none 0 0] 157)) w3) := HB2.out.trans (hb3.mono hz2)
    have hz3 : w.heap.size + 1 ≤ w3.heap.size := Nat.le_trans hz2 hb3.size
    have HM3 : Hid (NamesMap w3 B 20 (fun x => firstAt x l)) := HM2.out.below hb3
    clear hb3 HB2 HM2 HS hz2
    clear w2
    go_wp2_with (at_delete; refine wpList_del _ rfl _ _ rfl B 20 _ rfl HM3.out q rfl (by omega) (w.heap.size + 1) hz1 ?_; intro w4 HM4 hb4)
    have HB4 : Below (w.heap.size + 1) (w.alloc (.cells #[.int .i64 0, .slice none 0 0] 157)) w4 := HB3.out.trans hb4
    refine (HK.out _ _ (heads_room HB4).2.2.2.2.2 HM4).mono ?_
    rintro e w5 ⟨⟨v, rfl, ho⟩, hb5⟩
    have hz4 : w.heap.size + 1 ≤ w4.heap.size := by have := HB4.size; rwa [World.size_alloc] at this
    obtain ⟨hz5, q0, q1, f0, f1, kb⟩ := heads_room (HB4.trans (hb5.mono hz4))
    obtain ⟨va, vc, hv, _⟩ := ho.at
    generalize hn : L.length = vn at hv
    subst hv
    obtain ⟨r0, r1⟩ := two_set (v0 := .int .i64 0) (v1 := .slice va vn vc) q0 q1
    have KO : Hid (OwnH w5 (w.heap.size + 1) (.slice va vn vc) L) := ho.lower hz4
    clear hb5 HB4 HK ho hn HM4 HM3 HB3 hb4
    go_wp2_with fail
    exact bodyPost_ret (v := .agg #[.int .i64 0, .slice va vn vc]) (by simp [results, Tryz.results126, go_sem, r0, r1]) rfl ⟨HRes.mk ⟨rfl, rfl⟩ ((ownH_set (ownH_set KO.out (Nat.lt_succ_self _)) (Nat.lt_succ_self _)).lower (Nat.le_succ _)), (kb.setCell (Nat.le_refl _) _).setCell (Nat.le_refl _) _⟩
  · rw [dropL_bad h0]
    clear hi hset
    generalize askC l name = fc at *
    generalize l.length = n at *
    go_enter Tryz.func126, Tryz.ntmps126
    go_wp2_with fail
    refine (HA.out _ ((Below.refl _ _).alloc (Nat.le_refl _) _)).mono ?_
    rintro e w1 ⟨rfl, hb1⟩
    rw [World.size_alloc] at hb1
    obtain ⟨hz2, q0, q1, f0, f1, kb⟩ := heads_room hb1
    obtain ⟨r0, r1⟩ := two_set (v0 := .int .i64 fc) (v1 := .slice none 0 0) q0 q1
    clear hb1 HA
    go_wp2_with fail
    exact bodyPost_ret (v := .agg #[.int .i64 fc, .slice none 0 0]) (by simp [results, Tryz.results126, go_sem, r0, r1]) rfl ⟨HRes.mk ⟨rfl, rfl⟩ (OwnH.nil _ _), (kb.setCell (Nat.le_refl _) _).setCell (Nat.le_refl _) _⟩
end Go.Proofs.YtolkgnnjocmkdaaGreatDoor
/-
  Results of head lines: compared, marked, held.
-/
namespace Go.Proofs.YtolkgnnjocmkdaaGreatDoor
open Go.ChangeShapes Go.WideShapes Go.ChangeAt Go.RowKit Go.Sort
/-- A result in a variable. -/
structure HHRoom (w : World) (b : Nat) (c : Int) (v : Value) : Prop where
  c0 : w.cell? ⟨b, 0, none⟩ = some (.int .i64 c)
  c1 : w.cell? ⟨b, 1, none⟩ = some v
theorem HHRoom.lt {w : World} {b : Nat} {c : Int} {v : Value} (h : HHRoom w b c v) : b < w.heap.size := block_lt_of_cell h.c0
theorem HHRoom.keep {w w' : World} {b : Nat} {c : Int} {v : Value} (h : HHRoom w b c v) (hb : Below w.heap.size w w') : HHRoom w' b c v :=
  ⟨by rw [hb.cell (p := ⟨b, 0, none⟩) h.lt, h.c0], by rw [hb.cell (p := ⟨b, 1, none⟩) h.lt, h.c1]⟩
theorem HHRoom.av {w w' : World} {b : Nat} {c : Int} {v u : Value} (h : HHRoom w b c v) (k : HAV u w w') (hn : u.ownBlock ≠ some b) : HHRoom w' b c v :=
  ⟨by rw [k.cell b 0 h.lt hn, h.c0], by rw [k.cell b 1 h.lt hn, h.c1]⟩
theorem hroom_new (w : World) (c : Int) (a : Option Addr) (n cap : Nat) (t : TypeId) : HHRoom (w.alloc (.cells #[.int .i64 c, .slice a n cap] t)) w.heap.size c (.slice a n cap) := ⟨by simp, by simp⟩
theorem HLV.block_lt {w : World} {v : Value} {l : List Hdr} (h : HLV w v l) : ∀ b, v.ownBlock = some b → b < w.heap.size := by
  rcases h with ⟨rfl, _⟩ | ⟨g, c, rfl, hg, _⟩
  · intro b hb; cases hb
  · intro b hb; simp only [Value.ownBlock, Option.some.injEq] at hb; omega
/-- What a call hands back: head lines in memory of its own. -/
structure HGot (L : List Hdr) (base : Nat) (a : Option Addr) (n cap : Nat) (w : World) : Prop where
  len : n = L.length
  lv : HLV w (.slice a n cap) L
  ge : ∀ b, (Value.slice a n cap).ownBlock = some b → base ≤ b
theorem HRes.got {c : Int} {L : List Hdr} {base : Nat} {e : Ending} {w : World} (h : HRes c L base e w) : ∃ a n cap, e = .returned (.agg #[.int .i64 c, .slice a n cap]) ∧ HGot L base a n cap w := by
  obtain ⟨v, rfl, ho⟩ := h
  obtain ⟨a, c, rfl, _⟩ := ho.at
  exact ⟨a, _, c, rfl, rfl, ho.lv.1, ho.lv.2⟩
structure HMarkedR (w : World) (base : Nat) (a : Option Addr) (n ca : Nat) (w' : World) : Prop where
  lv : HLV w' (.slice a n ca) (mkHL 1 n)
  av : HAV (.slice a n ca) w w'
  low : Below base w w'
/-- Two results in variables, and their lines. -/
structure HKK (w : World) (X1 X2 : Nat) (c : Int) (v1 v2 : Value) (L1 L2 : List Hdr) (W : World) : Prop where
  b : Below w.heap.size w W
  r1 : HHRoom W X1 c v1
  r2 : HHRoom W X2 c v2
  l1 : HLV W v1 L1
  l2 : HLV W v2 L2
theorem HKK.keep {w : World} {X1 X2 : Nat} {c : Int} {v1 v2 : Value} {L1 L2 : List Hdr} {W W' : World} (h : HKK w X1 X2 c v1 v2 L1 L2 W) (hb : Below W.heap.size W W') : HKK w X1 X2 c v1 v2 L1 L2 W' :=
  ⟨h.b.trans (hb.mono h.b.size), h.r1.keep hb, h.r2.keep hb, h.l1.below hb, h.l2.below hb⟩
theorem HKK.av {w : World} {X1 X2 : Nat} {c : Int} {v1 v2 u : Value} {L1 L2 : List Hdr} {W W' : World} (h : HKK w X1 X2 c v1 v2 L1 L2 W) (k : HAV u W W') (hb : Below w.heap.size W W') (h1 : u.ownBlock ≠ some X1) (h2 : u.ownBlock ≠ some X2) (h3 : ∀ b, v1.ownBlock = some b → u.ownBlock ≠ some b) (h4 : ∀ b, v2.ownBlock = some b → u.ownBlock ≠ some b) : HKK w X1 X2 c v1 v2 L1 L2 W' :=
  ⟨h.b.trans hb, h.r1.av k h1, h.r2.av k h2, h.l1.av k h3, h.l2.av k h4⟩
/-- Lines of the law's own, that may be written. -/
structure HMine (W : World) (B : Nat) (l : List Hdr) : Prop where
  at0 : HeadsAt W B 0 l
  free : ∀ o, W.frozen? ⟨B, o, none⟩ = false
  lt : B < W.heap.size
theorem HMine.keep {W W' : World} {B : Nat} {l : List Hdr} (h : HMine W B l) (hb : Below W.heap.size W W') : HMine W' B l :=
  ⟨h.at0.keep hb, fun o => by rw [hb.frozen (p := ⟨B, o, none⟩) h.lt]; exact h.free o, Nat.lt_of_lt_of_le h.lt hb.size⟩
theorem HMine.mark {W : World} {B base : Nat} {l : List Hdr} (h : HMine W B l) (hl : l.length ≤ 1048576) (hb : base ≤ B) : ∃ q : Int, ¬ q < 0 ∧ Calls Tryz.prog 70 #[.slice (some ⟨B, 0, none⟩) l.length l.length, .int .i64 1] W fun e w' => e = .returned (.int .i64 q) ∧ HAV (.slice (some ⟨B, 0, none⟩) l.length l.length) W w' ∧ Below base W w' :=
  ⟨((1 + 2 * l.length : Nat) : Int), by omega, (markHeaderS_lv W (.slice (some ⟨B, 0, none⟩) l.length l.length) l hl (.inr ⟨B, _, rfl, h.lt, h.at0, h.free⟩) base (fun q hq => by simp only [Value.ownBlock, Option.some.injEq] at hq; omega) (by have := h.lt; omega)).mono fun _ _ ⟨h1, _, h3, h4⟩ => ⟨h1, h3, h4⟩⟩
end Go.Proofs.YtolkgnnjocmkdaaGreatDoor
/-
  Rows of texts as a value: compared, marked, held.
-/
namespace Go.Proofs.YtolkgnnjocmkdaaGreatDoor
open Go.ChangeShapes Go.WideShapes Go.ChangeAt Go.RowKit Go.Sort
def mkTL (k n : Nat) : List ByteArray := (List.range n).map fun j => mkT (k + j)
theorem mkTL_len (k n : Nat) : (mkTL k n).length = n := by simp [mkTL]
theorem mkTL_get {k n i : Nat} (h : i < n) : (mkTL k n)[i]? = some (mkT (k + i)) := by simp [mkTL, h]
theorem tput {w : World} {g off i : Nat} {L : List ByteArray} {r : ByteArray} (h : TAt w g off L) (hr : L[i]? = some r) (n : ByteArray) : TAt (w.setCell ⟨g, off + i, none⟩ (.string n)) g off (L.set i n) := by
  intro j q hq
  by_cases e : j = i
  · subst e
    have hl := (List.getElem?_eq_some_iff.1 hr).1
    rw [List.getElem?_set_self hl] at hq
    obtain rfl := Option.some.inj hq
    exact hcell_set_same (h j r hr)
  · rw [List.getElem?_set_ne (fun k => e k.symm)] at hq
    rw [hcell_set_off (by omega)]
    exact h j q hq
/-- The state of the marking loop: j texts are marked. -/
structure TMarked (w : World) (g off : Nat) (k n j : Nat) (L : List ByteArray) (W : World) : Prop where
  len : L.length = n
  done : ∀ i, i < j → L[i]? = some (mkT (k + i))
  items : TAt W g off L
  thaw : ∀ o, W.frozen? ⟨g, o, none⟩ = false
  apart : Apart g w W
  low : Below g w W
  lt : g < W.heap.size
theorem TMarked.below {w : World} {g off k n j : Nat} {L : List ByteArray} {W W' : World} (h : TMarked w g off k n j L W) (hb : Below W.heap.size W W') : TMarked w g off k n j L W' :=
  ⟨h.len, h.done, h.items.keep hb, fun o => by rw [hb.frozen (p := ⟨g, o, none⟩) h.lt, h.thaw], h.apart.trans (.below hb), h.low.trans (hb.mono (Nat.le_of_lt h.lt)), Nat.lt_of_lt_of_le h.lt hb.size⟩
theorem TMarked.set {w : World} {g off k n j : Nat} {L : List ByteArray} {W : World} {r : ByteArray} (h : TMarked w g off k n j L W) (hr : L[j]? = some r) : TMarked w g off k n (j + 1) (L.set j (mkT (k + j))) (W.setCell ⟨g, off + j, none⟩ (.string (mkT (k + j)))) := by
  refine ⟨by rw [List.length_set]; exact h.len, fun i hi => ?_, tput h.items hr _, fun o => by rw [World.frozen?_setCell, h.thaw], h.apart.trans (.set _ _ _ _), h.low.setCell (Nat.le_refl _) _, by simpa using h.lt⟩
  by_cases e : i = j
  · subst e; exact List.getElem?_set_self (List.getElem?_eq_some_iff.1 hr).1
  · rw [List.getElem?_set_ne (fun k => e k.symm)]; exact h.done i (by omega)
set_option maxRecDepth 100000 in
set_option maxHeartbeats 4000000 in
theorem markStringS_any (w : World) (g off cap n k : Nat) (l : List ByteArray) (hn : l.length = n) (hn2 : n ≤ 1048576) (hk0 : 1 ≤ k) (hk1 : k ≤ 100000000000000) (hi : TAt w g off l) (hf : ∀ o, w.frozen? ⟨g, o, none⟩ = false) (hg : g < w.heap.size) :
    Calls Tryz.prog 72 #[.slice (some ⟨g, off, none⟩) n cap, .int .i64 (k : Int)] w fun e w' => e = .returned (.int .i64 ((k + n : Nat) : Int)) ∧ TAt w' g off (mkTL k n) ∧ Apart g w w' ∧ Below g w w' ∧ ∀ o, w'.frozen? ⟨g, o, none⟩ = false := by
  have HST : Hid (TMarked w g off k n 0 l w) := ⟨hn, fun i h => by omega, hi, hf, .refl _ _, Below.refl _ _, hg⟩
  clear hi hf hg hn
  go_enter Tryz.func72, Tryz.ntmps72
  go_wp2_with fail
  go_loopw [1, 5] (fun x i wr => ∃ (j : Nat) (L : List ByteArray), j ≤ n ∧ i = .int .i64 (j : Int) ∧ x = .int .i64 ((k + j : Nat) : Int) ∧ TMarked w g off k n j L wr) (fun _ i _ => n - (intOf i).toNat)
  case atStart => exact ⟨0, l, Nat.zero_le _, rfl, rfl, HST.out⟩
  case round =>
    obtain ⟨j, L, hj, rfl, rfl, hm⟩ := hrel
    have HM : Hid (TMarked w g off k n j L wr) := hm
    clear hm HST
    by_cases hlt : j < n
    · obtain ⟨r, hr⟩ : ∃ r, L[j]? = some r := ⟨L[j]'(by have := HM.out.len; omega), List.getElem?_eq_getElem _⟩
      have HR : Hid (L[j]? = some r) := hr
      clear hr
      have g0 : (0 : Int) ≤ j := by omega
      have g1 : (j : Int) < n := by omega
      have HT1 : Hid (∀ w, Calls Tryz.prog 128 #[.int .i64 ((k + j : Nat) : Int)] w fun e w' => e = .returned (.string (mkT (k + j))) ∧ Below w.heap.size w w') := markText_any (k + j) (by omega) (by omega)
      go_wp2_with fail
      refine (HT1.out _).mono ?_
      rintro e w1 ⟨rfl, hb1⟩
      have HM1 : Hid (TMarked w g off k n j L w1) := HM.out.below hb1
      clear hb1 HM
      have p1 := HM1.out.items j r HR.out
      have f1 := HM1.out.thaw (off + j)
      have HM7 : Hid (TMarked w g off k n (j + 1) (L.set j (mkT (k + j))) (w1.setCell ⟨g, off + j, none⟩ (.string (mkT (k + j))))) := HM1.out.set HR.out
      clear HM1
      go_wp2_with fail
      go_roundw
      case rel => exact ⟨j + 1, _, by omega, by go_num, by congr 1, HM7.out⟩
      case measure => simp [intOf]; omega
    · obtain rfl : j = n := by omega
      have HX : Hid (TAt wr g off (mkTL k j)) := by
        have e : L = mkTL k j := by
          apply List.ext_getElem?
          intro i
          by_cases hi : i < j
          · rw [HM.out.done i hi, mkTL_get hi]
          · rw [List.getElem?_eq_none (by have := HM.out.len; omega), List.getElem?_eq_none (by rw [mkTL_len]; omega)]
        show TAt _ _ _ _
        rw [← e]
        exact HM.out.items
      go_wp2_with fail
      go_ret
      exact ⟨rfl, HX.out, HM.out.apart, HM.out.low, HM.out.thaw⟩
set_option maxRecDepth 100000 in
set_option maxHeartbeats 4000000 in
theorem heldStringS_any (w : World) (g off cap n k : Nat) (hn2 : n ≤ 1048576) (hk0 : 1 ≤ k) (hk1 : k ≤ 100000000000000) (hi : TAt w g off (mkTL k n)) :
    Calls Tryz.prog 144 #[.slice (some ⟨g, off, none⟩) n cap, .int .i64 (k : Int)] w fun e w' => e = .returned (.int .i64 ((k + n : Nat) : Int)) ∧ Below w.heap.size w w' := by
  have HI : Hid (TAt w g off (mkTL k n)) := hi
  clear hi
  go_enter Tryz.func144, Tryz.ntmps144
  go_wp2_with fail
  go_loopw [1, 5] (fun x i wr => ∃ (j : Nat), j ≤ n ∧ i = .int .i64 (j : Int) ∧ x = .int .i64 ((k + j : Nat) : Int) ∧ Below w.heap.size w wr) (fun _ i _ => n - (intOf i).toNat)
  case atStart => exact ⟨0, Nat.zero_le _, rfl, rfl, Below.refl _ _⟩
  case round =>
    obtain ⟨j, hj, rfl, rfl, hb⟩ := hrel
    have KB : Hid (Below w.heap.size w wr) := hb
    clear hb
    by_cases hlt : j < n
    · have q1 := (HI.out.keep KB.out) j _ (mkTL_get hlt)
      have g0 : (0 : Int) ≤ j := by omega
      have g1 : (j : Int) < n := by omega
      have HT1 : Hid (∀ w, Calls Tryz.prog 128 #[.int .i64 ((k : Int) + j)] w fun e w' => e = .returned (.string (mkT (k + j))) ∧ Below w.heap.size w w') := by
        have := markText_any (k + j) (by omega) (by omega)
        rw [show ((k + j : Nat) : Int) = (k : Int) + j by omega] at this
        exact this
      generalize mkT (k + j) = t1 at *
      have x1 := cell_regrown q1
      clear q1
      have cE : ∀ d os, Calls Tryz.prog 128 #[.int .i64 ((k : Int) + j)] (grow (redrawn wr d) os) fun e w'' => e = .returned (.string t1) ∧ ∃ p : Regrown, w'' = grow (redrawn wr p.d) p.os := fun d os => Calls.regrown_of (HT1.out _)
      go_wp2_with fail
      refine wp_region_quiet_below (by kernel_rfl) (by kernel_rfl) ?_
      repeat (go_big_quiet_step ((go_at_call 128; exact cE _ _)))
      refine wpQuiet_nil ?_
      intro w3 hw3
      have KB3 : Hid (Below w.heap.size w w3) := by
        obtain ⟨⟨d, os⟩, rfl⟩ := hw3
        exact KB.out.trans ((below_regrown wr d os).mono KB.out.size)
      clear x1 cE hw3 KB
      go_wp2_with fail
      go_roundw
      case rel => exact ⟨j + 1, by omega, by go_num, by congr 1, KB3.out⟩
      case measure => simp [intOf]; omega
    · obtain rfl : j = n := by omega
      go_wp2_with fail
      go_ret
      exact ⟨rfl, KB.out⟩
def TLV (w : World) (v : Value) (l : List ByteArray) : Prop :=
  (v = .slice none 0 0 ∧ l = []) ∨ ∃ g cap, v = .slice (some ⟨g, 0, none⟩) l.length cap ∧ g < w.heap.size ∧ TAt w g 0 l ∧ ∀ o, w.frozen? ⟨g, o, none⟩ = false
theorem OwnS.lv {w : World} {base : Nat} {v : Value} {l : List ByteArray} (h : OwnS w base v l) : TLV w v l ∧ ∀ b, v.ownBlock = some b → base ≤ b := by
  have h0 := h
  obtain ⟨_, h1 | ⟨g, c, cur, rfl, hg, hh, _⟩⟩ := h
  · have e : l = [] := List.eq_nil_of_length_eq_zero h1.2
    exact ⟨.inl ⟨h1.1, e⟩, fun b hb => by rw [h1.1] at hb; cases hb⟩
  · refine ⟨.inr ⟨g, c, rfl, (Array.getElem?_eq_some_iff.1 hh).1, fun i x hx => ?_, fun o => ?_⟩, fun b hb => ?_⟩
    · have hk := (List.getElem?_eq_some_iff.1 hx).1
      have := World.ownsRow.cellAt h0 i (by omega)
      rw [Nat.zero_add, this]
      simp [textsW, hx]
    · simp [World.frozen?, hh]
    · simp only [Value.ownBlock, Option.some.injEq] at hb; omega
theorem TLV.below {w w' : World} {v : Value} {l : List ByteArray} (h : TLV w v l) (hb : Below w.heap.size w w') : TLV w' v l := by
  rcases h with h | ⟨g, c, e, hg, hi, hf⟩
  · exact .inl h
  · exact .inr ⟨g, c, e, Nat.lt_of_lt_of_le hg hb.size, hi.keep hb, fun o => by rw [hb.frozen (p := ⟨g, o, none⟩) hg, hf]⟩
theorem TLV.av {w w' : World} {v v1 : Value} {l : List ByteArray} (h : TLV w v1 l) (k : HAV v w w') (hne : ∀ b, v1.ownBlock = some b → v.ownBlock ≠ some b) : TLV w' v1 l := by
  rcases h with h | ⟨g, c, rfl, hg, hi, hf⟩
  · exact .inl h
  · have hn := hne g rfl
    exact .inr ⟨g, c, rfl, Nat.lt_of_lt_of_le hg k.size, fun i r hr => by rw [k.cell g _ hg hn]; exact hi i r hr, fun o => by rw [k.frozen g o hg hn, hf]⟩
theorem TLV.tin {w : World} {v : Value} {l : List ByteArray} (h : TLV w v l) : ∃ a c, v = .slice a l.length c ∧ TIn w a l := by
  rcases h with ⟨rfl, rfl⟩ | ⟨g, c, rfl, _, hi, _⟩
  · exact ⟨none, 0, rfl, .inl rfl⟩
  · exact ⟨_, c, rfl, .inr ⟨g, 0, rfl, hi⟩⟩
theorem eqStringS_lv (w : World) (v1 v2 : Value) (l : List ByteArray) (hl : l.length ≤ 1048576) (h1 : TLV w v1 l) (h2 : TLV w v2 l) :
    Calls Tryz.prog 69 #[v1, v2] w fun e w' => e = .returned (.bool true) ∧ Below w.heap.size w w' := by
  obtain ⟨a1, c1, rfl, t1⟩ := h1.tin
  obtain ⟨a2, c2, rfl, t2⟩ := h2.tin
  exact eqStringS_same w a1 a2 c1 c2 l hl t1 t2
set_option maxHeartbeats 1000000 in
theorem markStringS_nil (w : World) (a : Option Addr) (c k : Nat) :
    Calls Tryz.prog 72 #[.slice a 0 c, .int .i64 (k : Int)] w fun e w' => e = .returned (.int .i64 (k : Int)) ∧ Below w.heap.size w w' := by
  go_enter Tryz.func72, Tryz.ntmps72
  go_wp2_with fail
  go_loop [1, 5] (fun x i => x = .int .i64 (k : Int) ∧ i = .int .i64 0) (fun _ _ => 0)
  case atStart => exact ⟨rfl, rfl⟩
  case round =>
    obtain ⟨rfl, rfl⟩ := hrel
    go_wp2_with fail
    go_ret
    exact ⟨rfl, Below.refl _ _⟩
set_option maxHeartbeats 1000000 in
theorem heldStringS_nil (w : World) (a : Option Addr) (c k : Nat) :
    Calls Tryz.prog 144 #[.slice a 0 c, .int .i64 (k : Int)] w fun e w' => e = .returned (.int .i64 (k : Int)) ∧ Below w.heap.size w w' := by
  go_enter Tryz.func144, Tryz.ntmps144
  go_wp2_with fail
  go_loop [1, 5] (fun x i => x = .int .i64 (k : Int) ∧ i = .int .i64 0) (fun _ _ => 0)
  case atStart => exact ⟨rfl, rfl⟩
  case round =>
    obtain ⟨rfl, rfl⟩ := hrel
    go_wp2_with fail
    go_ret
    exact ⟨rfl, Below.refl _ _⟩
theorem markStringS_lv (w : World) (v : Value) (l : List ByteArray) (hl : l.length ≤ 1048576) (h : TLV w v l) (base : Nat) (hb : ∀ b, v.ownBlock = some b → base ≤ b) (hbs : base ≤ w.heap.size) :
    Calls Tryz.prog 72 #[v, .int .i64 1] w fun e w' => e = .returned (.int .i64 ((1 + l.length : Nat) : Int)) ∧ TLV w' v (mkTL 1 l.length) ∧ HAV v w w' ∧ Below base w w' := by
  rcases h with ⟨rfl, rfl⟩ | ⟨g, c, rfl, hg, hi, hf⟩
  · exact (markStringS_nil w none 0 1).mono fun _ _ ⟨h1, h2⟩ => ⟨h1, .inl ⟨rfl, rfl⟩, .below h2, h2.mono hbs⟩
  · refine (markStringS_any w g 0 c l.length 1 l rfl hl (by omega) (by omega) hi hf hg).mono ?_
    rintro e w' ⟨h1, h2, h3, h4, h5⟩
    have hne : ∀ b, (Value.slice (some ⟨g, 0, none⟩) l.length c).ownBlock ≠ some b → b ≠ g := fun b hb e => hb (by subst e; rfl)
    refine ⟨h1, ?_, ⟨h3.size, fun b o hb hn => h3.cell b o hb (hne b hn), fun b o hb hn => h3.frozen b o hb (hne b hn)⟩, h4.mono (hb g rfl)⟩
    exact .inr ⟨g, c, by rw [mkTL_len], Nat.lt_of_lt_of_le hg h3.size, h2, h5⟩
theorem heldStringS_lv (w : World) (v : Value) (n : Nat) (hl : n ≤ 1048576) (h : TLV w v (mkTL 1 n)) :
    Calls Tryz.prog 144 #[v, .int .i64 1] w fun e w' => e = .returned (.int .i64 ((1 + n : Nat) : Int)) ∧ Below w.heap.size w w' := by
  rcases h with ⟨rfl, h0⟩ | ⟨g, c, rfl, _, hi, _⟩
  · have e := congrArg List.length h0
    rw [mkTL_len] at e
    simp at e
    subst e
    exact heldStringS_nil w none 0 1
  · rw [mkTL_len]
    exact heldStringS_any w g 0 c n 1 hl (by omega) (by omega) hi
theorem TLV.block_lt {w : World} {v : Value} {l : List ByteArray} (h : TLV w v l) : ∀ b, v.ownBlock = some b → b < w.heap.size := by
  rcases h with ⟨rfl, _⟩ | ⟨g, c, rfl, hg, _⟩
  · intro b hb; cases hb
  · intro b hb; simp only [Value.ownBlock, Option.some.injEq] at hb; omega
/-- What a call hands back: texts in memory of its own. -/
structure TGot (L : List ByteArray) (base : Nat) (a : Option Addr) (n cap : Nat) (w : World) : Prop where
  len : n = L.length
  lv : TLV w (.slice a n cap) L
  ge : ∀ b, (Value.slice a n cap).ownBlock = some b → base ≤ b
def TRes (c : Int) (L : List ByteArray) (base : Nat) (e : Ending) (w : World) : Prop := ∃ v, e = .returned (.agg #[.int .i64 c, v]) ∧ OwnS w base v L
theorem TRes.got {c : Int} {L : List ByteArray} {base : Nat} {e : Ending} {w : World} (h : TRes c L base e w) : ∃ a n cap, e = .returned (.agg #[.int .i64 c, .slice a n cap]) ∧ TGot L base a n cap w := by
  obtain ⟨v, rfl, ho⟩ := h
  obtain ⟨a, c, rfl, _⟩ := ho.lv.1.tin
  exact ⟨a, _, c, rfl, rfl, ho.lv.1, ho.lv.2⟩
structure TMarkedR (w : World) (base : Nat) (a : Option Addr) (n ca : Nat) (w' : World) : Prop where
  lv : TLV w' (.slice a n ca) (mkTL 1 n)
  av : HAV (.slice a n ca) w w'
  low : Below base w w'
/-- Two results in variables, and their lines. -/
structure TKK (w : World) (X1 X2 : Nat) (c : Int) (v1 v2 : Value) (L1 L2 : List ByteArray) (W : World) : Prop where
  b : Below w.heap.size w W
  r1 : HHRoom W X1 c v1
  r2 : HHRoom W X2 c v2
  l1 : TLV W v1 L1
  l2 : TLV W v2 L2
theorem TKK.keep {w : World} {X1 X2 : Nat} {c : Int} {v1 v2 : Value} {L1 L2 : List ByteArray} {W W' : World} (h : TKK w X1 X2 c v1 v2 L1 L2 W) (hb : Below W.heap.size W W') : TKK w X1 X2 c v1 v2 L1 L2 W' :=
  ⟨h.b.trans (hb.mono h.b.size), h.r1.keep hb, h.r2.keep hb, h.l1.below hb, h.l2.below hb⟩
theorem TKK.av {w : World} {X1 X2 : Nat} {c : Int} {v1 v2 u : Value} {L1 L2 : List ByteArray} {W W' : World} (h : TKK w X1 X2 c v1 v2 L1 L2 W) (k : HAV u W W') (hb : Below w.heap.size W W') (h1 : u.ownBlock ≠ some X1) (h2 : u.ownBlock ≠ some X2) (h3 : ∀ b, v1.ownBlock = some b → u.ownBlock ≠ some b) (h4 : ∀ b, v2.ownBlock = some b → u.ownBlock ≠ some b) : TKK w X1 X2 c v1 v2 L1 L2 W' :=
  ⟨h.b.trans hb, h.r1.av k h1, h.r2.av k h2, h.l1.av k h3, h.l2.av k h4⟩
end Go.Proofs.YtolkgnnjocmkdaaGreatDoor
/-
  Results that hold bytes: owned, compared, marked, held.
-/
namespace Go.Proofs.YtolkgnnjocmkdaaGreatDoor
open Go.ChangeShapes Go.WideShapes Go.ChangeAt Go.RowKit
structure Two (W : World) (B : Nat) (v0 v1 : Value) : Prop where
  c0 : W.cell? ⟨B, 0, none⟩ = some v0
  c1 : W.cell? ⟨B, 1, none⟩ = some v1
  fr : ∀ o, W.frozen? ⟨B, o, none⟩ = false
  lt : B < W.heap.size
theorem Two.keep {W W' : World} {B : Nat} {v0 v1 : Value} (h : Two W B v0 v1) (hb : Below W.heap.size W W') : Two W' B v0 v1 :=
  ⟨by rw [hb.cell (p := ⟨B, 0, none⟩) h.lt]; exact h.c0, by rw [hb.cell (p := ⟨B, 1, none⟩) h.lt]; exact h.c1, fun o => by rw [hb.frozen (p := ⟨B, o, none⟩) h.lt]; exact h.fr o, Nat.lt_of_lt_of_le h.lt hb.size⟩
theorem Two.new (W : World) (v0 v1 : Value) (t : TypeId) : Two (W.alloc (.cells #[v0, v1] t)) W.heap.size v0 v1 :=
  ⟨by rw [World.cell?_alloc_mark]; rfl, by rw [World.cell?_alloc_mark]; rfl, fun o => by have e := heap_alloc_new W (.cells #[v0, v1] t); unfold World.frozen?; rw [e]; simp, by simp⟩
/-- v holds the bytes l in a row of its own, from block base on; or it is nil and there are none. -/
def BOwn (w : World) (base : Nat) (v : Value) (l : List UInt8) : Prop := (v = .slice none 0 0 ∧ l = []) ∨ ∃ g k, v = .slice (some ⟨g, 0, none⟩) l.length k ∧ base ≤ g ∧ BMine w g l
theorem BOwn.keep {w w' : World} {base : Nat} {v : Value} {l : List UInt8} (h : BOwn w base v l) (hb : Below w.heap.size w w') : BOwn w' base v l := by
  rcases h with h | ⟨g, k, e, hg, hm⟩
  · exact .inl h
  · exact .inr ⟨g, k, e, hg, hm.keep hb⟩
theorem BOwn.lower {w : World} {b0 base : Nat} {v : Value} {l : List UInt8} (h : BOwn w base v l) (hb : b0 ≤ base) : BOwn w b0 v l := by
  rcases h with h | ⟨g, k, e, hg, hm⟩
  · exact .inl h
  · exact .inr ⟨g, k, e, Nat.le_trans hb hg, hm⟩
theorem BOwn.shape {w : World} {base : Nat} {v : Value} {l : List UInt8} (h : BOwn w base v l) : ∃ a k, v = .slice a l.length k ∧ BIn w a l := by
  rcases h with ⟨rfl, rfl⟩ | ⟨g, k, rfl, hg, hm⟩
  · exact ⟨none, 0, rfl, .inl rfl⟩
  · exact ⟨_, _, rfl, hm.in⟩
theorem BOwn.block {w : World} {base : Nat} {v : Value} {l : List UInt8} (h : BOwn w base v l) : ∀ b, v.ownBlock = some b → base ≤ b ∧ b < w.heap.size := by
  rcases h with ⟨rfl, _⟩ | ⟨g, k, rfl, hg, hm⟩
  · intro b hb; cases hb
  · intro b hb; simp only [Value.ownBlock, Option.some.injEq] at hb; subst hb; exact ⟨hg, hm.lt⟩
/-- What a call hands back: a code, and bytes of its own. -/
def BGot (c : Int) (l : List UInt8) (base : Nat) (e : Ending) (w : World) : Prop := ∃ a n k, e = .returned (.agg #[.int .i64 c, .slice a n k]) ∧ BOwn w base (.slice a n k) l
theorem BGot.nil (c : Int) (base : Nat) (w : World) : BGot c [] base (.returned (.agg #[.int .i64 c, .slice none 0 0])) w := ⟨none, 0, 0, rfl, .inl ⟨rfl, rfl⟩⟩
/-- A text turned into bytes. -/
theorem bytes_of_text (w : World) (s : ByteArray) : ∃ C cap, (convert 9 25 (.string s)).run Tryz.prog w = .ok (.slice (some ⟨w.heap.size, 0, none⟩) s.size cap) (w.drew.alloc (.cells C 5 (C.size, C.size + 1))) ∧ BMine (w.drew.alloc (.cells C 5 (C.size, C.size + 1))) w.heap.size s.data.toList := by
  have h1 := run_bytes_of_string (P := Tryz.prog) w 9 25 5 s Tryz.underlying9 Tryz.underlying25 Tryz.underlying5
  have h2 := fun cap => BRow.made w s cap _ rfl
  refine ⟨_, _, h1, ?_⟩
  have h3 := h2 (grownCap w s.size 0 5)
  refine ⟨fun i c hc => ?_, fun o ho => ?_, ?_⟩
  · obtain ⟨hi, rfl⟩ := List.getElem?_eq_some_iff.1 hc
    rw [Nat.zero_add]
    exact h3.cell i hi
  · exact h3.free o ho
  · show w.heap.size < (w.drew.heap.push _).size
    rw [Array.size_push]; exact Nat.lt_succ_self _
end Go.Proofs.YtolkgnnjocmkdaaGreatDoor
/-
  Results that hold bytes: compared, marked, held.
-/
namespace Go.Proofs.YtolkgnnjocmkdaaGreatDoor
open Go.ChangeShapes Go.WideShapes Go.ChangeAt Go.RowKit Go.Sort
/-- All that was there, but for the memory of v, is as it was. -/
structure BAV (v : Value) (w w' : World) : Prop where
  size : w'.heap.size = w.heap.size
  cell : ∀ b o, b < w.heap.size → v.ownBlock ≠ some b → w'.cell? ⟨b, o, none⟩ = w.cell? ⟨b, o, none⟩
  frozen : ∀ b o, w'.frozen? ⟨b, o, none⟩ = w.frozen? ⟨b, o, none⟩
/-- v holds the marks from k on. -/
def MarkB (w : World) (v : Value) (k n : Nat) : Prop := n = 0 ∨ ∃ g c, v = .slice (some ⟨g, 0, none⟩) n c ∧ g < w.heap.size ∧ ∀ i, i < n → w.cell? ⟨g, i, none⟩ = some (.int .u8 (((k + i : Nat) : Int) % 256))
theorem MarkB.keep {w w' : World} {v : Value} {k n : Nat} (h : MarkB w v k n) (hb : Below w.heap.size w w') : MarkB w' v k n := by
  rcases h with h | ⟨g, c, e, hg, hc⟩
  · exact .inl h
  · exact .inr ⟨g, c, e, Nat.lt_of_lt_of_le hg hb.size, fun i hi => by rw [hb.cell (p := ⟨g, i, none⟩) hg]; exact hc i hi⟩
theorem MarkB.av {w w' : World} {v u : Value} {k n : Nat} (h : MarkB w v k n) (ha : BAV u w w') (hne : ∀ b, v.ownBlock = some b → u.ownBlock ≠ some b) : MarkB w' v k n := by
  rcases h with h | ⟨g, c, rfl, hg, hc⟩
  · exact .inl h
  · exact .inr ⟨g, c, rfl, by rw [ha.size]; exact hg, fun i hi => by rw [ha.cell g i hg (hne g rfl)]; exact hc i hi⟩
set_option maxHeartbeats 2000000 in
theorem markByteS_row (W : World) (g n cap k base : Nat) (hn : n ≤ 1048576) (hk : k ≤ 100000000000000) (hbase : base ≤ g) (hg : g < W.heap.size) (hm : HRoom W g n) :
    Calls Tryz.prog 71 #[.slice (some ⟨g, 0, none⟩) n cap, .int .i64 (k : Int)] W fun e w' => e = .returned (.int .i64 ((k + n : Nat) : Int)) ∧ (MarkB w' (.slice (some ⟨g, 0, none⟩) n cap) k n ∧ BAV (.slice (some ⟨g, 0, none⟩) n cap) W w' ∧ Below base W w') := by
  have HM : Hid (HRoom W g n) := hm
  clear hm
  go_enter Tryz.func71, Tryz.ntmps71
  go_wp2_with fail
  go_loopw [1, 5] (fun x i wr => ∃ j : Nat, j ≤ n ∧ i = .int .i64 (j : Int) ∧ x = .int .i64 ((k + j : Nat) : Int) ∧ HRoom wr g n ∧ (∀ q, q < j → wr.cell? ⟨g, q, none⟩ = some (.int .u8 (((k + q : Nat) : Int) % 256))) ∧ BAV (.slice (some ⟨g, 0, none⟩) n cap) W wr ∧ Below base W wr) (fun _ i _ => n - (intOf i).toNat)
  case atStart => exact ⟨0, Nat.zero_le _, rfl, rfl, HM.out, fun q hq => absurd hq (by omega), ⟨rfl, fun _ _ _ _ => rfl, fun _ _ => rfl⟩, Below.refl _ _⟩
  case round =>
    obtain ⟨j, hj, rfl, rfl, hroom, hcells, hav, hb⟩ := hrel
    clear HM
    by_cases hlt : j < n
    · obtain ⟨⟨u, hu⟩, hf⟩ := hroom j hlt
      have H1 : Hid (HRoom wr g n ∧ (∀ q, q < j → wr.cell? ⟨g, q, none⟩ = some (.int .u8 (((k + q : Nat) : Int) % 256))) ∧ BAV (.slice (some ⟨g, 0, none⟩) n cap) W wr ∧ Below base W wr) := ⟨hroom, hcells, hav, hb⟩
      have hw : IntKind.i64.wrap ((k + j : Nat) + 1 : Int) = ((k + (j + 1) : Nat) : Int) := by
        rw [show (((k + j : Nat) : Int) + 1) = ((k + (j + 1) : Nat) : Int) from by omega]
        unfold IntKind.wrap; simp [IntKind.signed, IntKind.bits]; omega
      have g1 : (j : Int) < n := by omega
      have HJ : Hid (((k + (j + 1) : Nat) : Int) = ((k + (j + 1) : Nat) : Int)) := rfl
      clear hroom hcells hav hb
      obtain ⟨K, hK⟩ : ∃ K : Int, K = ((k + j : Nat) : Int) := ⟨_, rfl⟩
      have HK : Hid (K = ((k + j : Nat) : Int)) := hK
      rw [← hK] at hw ⊢
      clear hK
      go_wp2_with fail
      refine ⟨⟨j + 1, by omega, by congr 1, by congr 1, ?_⟩, by simp [intOf]; omega⟩
      obtain ⟨hroom, hcells, hav, hb⟩ := H1.out
      rw [HK.out]
      refine ⟨hroom.set _ _, fun q hq => ?_, ⟨by simpa using hav.size, fun b o hb0 hne => ?_, fun b o => by rw [World.frozen?_setCell]; exact hav.frozen b o⟩, hb.setCell hbase _⟩
      · by_cases e : q = j
        · subst e; exact World.cell?_setCell_same _ _ _ hu
        · rw [World.cell?_setCell_other _ _ _ _ (hoff_ne (by omega))]; exact hcells q (by omega)
      · have hbg : b ≠ g := fun e => hne (by subst e; rfl)
        rw [World.cell?_setCell_other _ _ _ _ (fun e => hbg (congrArg Addr.block e).symm)]
        exact hav.cell b o hb0 hne
    · have ej : j = n := by omega
      subst ej
      have HF : Hid (MarkB wr (.slice (some ⟨g, 0, none⟩) j cap) k j ∧ BAV (.slice (some ⟨g, 0, none⟩) j cap) W wr ∧ Below base W wr) := ⟨.inr ⟨g, cap, rfl, by rw [hav.size]; exact hg, hcells⟩, hav, hb⟩
      clear hcells hav hb hroom
      obtain ⟨K, hK⟩ : ∃ K : Int, K = ((k + j : Nat) : Int) := ⟨_, rfl⟩
      have HK : Hid (K = ((k + j : Nat) : Int)) := hK
      rw [← hK]
      clear hK
      go_wp2_with fail
      go_ret
      exact ⟨ret_int (by rw [HK.out]), HF.out⟩
set_option maxHeartbeats 2000000 in
theorem heldByteS_row (W : World) (g n cap k : Nat) (hn : n ≤ 1048576) (hk : k ≤ 100000000000000) (hc : ∀ i, i < n → W.cell? ⟨g, i, none⟩ = some (.int .u8 (((k + i : Nat) : Int) % 256))) :
    Calls Tryz.prog 143 #[.slice (some ⟨g, 0, none⟩) n cap, .int .i64 (k : Int)] W fun e w' => e = .returned (.int .i64 ((k + n : Nat) : Int)) ∧ w' = W := by
  have HC : Hid (∀ i, i < n → W.cell? ⟨g, i, none⟩ = some (.int .u8 (((k + i : Nat) : Int) % 256))) := hc
  clear hc
  go_enter Tryz.func143, Tryz.ntmps143
  go_wp2_with fail
  go_loop [1, 5] (fun x i => ∃ j : Nat, j ≤ n ∧ i = .int .i64 (j : Int) ∧ x = .int .i64 ((k + j : Nat) : Int)) (fun _ i => n - (intOf i).toNat)
  case atStart => exact ⟨0, Nat.zero_le _, rfl, rfl⟩
  case round =>
    obtain ⟨j, hj, rfl, rfl⟩ := hrel
    by_cases hlt : j < n
    · have hu := HC.out j hlt
      have hw : IntKind.i64.wrap ((k + j : Nat) + 1 : Int) = ((k + (j + 1) : Nat) : Int) := by
        rw [show (((k + j : Nat) : Int) + 1) = ((k + (j + 1) : Nat) : Int) from by omega]
        unfold IntKind.wrap; simp [IntKind.signed, IntKind.bits]; omega
      have g1 : (j : Int) < n := by omega
      obtain ⟨K, hK⟩ : ∃ K : Int, K = ((k + j : Nat) : Int) := ⟨_, rfl⟩
      rw [← hK] at hw hu ⊢
      clear hK
      go_wp2_with fail
      exact ⟨⟨j + 1, by omega, by congr 1, by congr 1⟩, by simp [intOf]; omega⟩
    · have ej : j = n := by omega
      subst ej
      clear HC
      obtain ⟨K, hK⟩ : ∃ K : Int, K = ((k + j : Nat) : Int) := ⟨_, rfl⟩
      have HK : Hid (K = ((k + j : Nat) : Int)) := hK
      rw [← hK]
      clear hK
      go_wp2_with fail
      go_ret
      exact ⟨ret_int (by rw [HK.out]; omega), rfl⟩
/-! ### as results -/
end Go.Proofs.YtolkgnnjocmkdaaGreatDoor
/-
  Answers of PeekEntry, handed over by the laws: compared, marked, held.
-/
namespace Go.Proofs.YtolkgnnjocmkdaaGreatDoor
open Go.ChangeShapes Go.WideShapes Go.ChangeAt Go.RowKit Go.Sort
set_option maxHeartbeats 4000000 in
theorem eqEntR_same (w : World) (c : Int) (x : Ent) (r s : EntR) (hf : EntFit x) (h1 : EntIn w x r) (h2 : EntIn w x s) :
    Calls Tryz.prog 27 #[.agg #[.int .i64 c, .string x.key, .int .i64 x.st, .slice r.ha x.hs.length r.hc, .slice r.ba x.bl.length r.bc, .int .i64 x.t, .int .i64 x.g, .int .i64 x.l, .int .i64 x.s, .int .i64 x.e, .bool x.b1, .bool x.b2, .slice r.ta x.ts.length r.tc, .int .i64 x.pins], .agg #[.int .i64 c, .string x.key, .int .i64 x.st, .slice s.ha x.hs.length s.hc, .slice s.ba x.bl.length s.bc, .int .i64 x.t, .int .i64 x.g, .int .i64 x.l, .int .i64 x.s, .int .i64 x.e, .bool x.b1, .bool x.b2, .slice s.ta x.ts.length s.tc, .int .i64 x.pins]] w fun e w' => e = .returned (.bool true) ∧ Below w.heap.size w w' := by
  have HC : Hid (∀ X, Below w.heap.size w X → Calls Tryz.prog 16 #[.agg #[.string x.key, .int .i64 x.st, .slice r.ha x.hs.length r.hc, .slice r.ba x.bl.length r.bc, .int .i64 x.t, .int .i64 x.g, .int .i64 x.l, .int .i64 x.s, .int .i64 x.e, .bool x.b1, .bool x.b2, .slice r.ta x.ts.length r.tc, .int .i64 x.pins], .agg #[.string x.key, .int .i64 x.st, .slice s.ha x.hs.length s.hc, .slice s.ba x.bl.length s.bc, .int .i64 x.t, .int .i64 x.g, .int .i64 x.l, .int .i64 x.s, .int .i64 x.e, .bool x.b1, .bool x.b2, .slice s.ta x.ts.length s.tc, .int .i64 x.pins]] X fun e w' => e = .returned (.bool true) ∧ Below X.heap.size X w') := fun X hX => eqEntry_q X x r s hf (h1.keep hX) (h2.keep hX)
  have B0 : Hid (Below w.heap.size w ((w.alloc (.cells #[.int .i64 c, .string x.key, .int .i64 x.st, .slice r.ha x.hs.length r.hc, .slice r.ba x.bl.length r.bc, .int .i64 x.t, .int .i64 x.g, .int .i64 x.l, .int .i64 x.s, .int .i64 x.e, .bool x.b1, .bool x.b2, .slice r.ta x.ts.length r.tc, .int .i64 x.pins] 58)).alloc (.cells #[.int .i64 c, .string x.key, .int .i64 x.st, .slice s.ha x.hs.length s.hc, .slice s.ba x.bl.length s.bc, .int .i64 x.t, .int .i64 x.g, .int .i64 x.l, .int .i64 x.s, .int .i64 x.e, .bool x.b1, .bool x.b2, .slice s.ta x.ts.length s.tc, .int .i64 x.pins] 58))) := ((Below.refl _ _).alloc (Nat.le_refl _) _).alloc (by simp) _
  clear h1 h2 hf
  go_enter Tryz.func27, Tryz.ntmps27
  go_wp2_with fail
  refine (HC.out _ B0.out).mono ?_
  rintro e w1 ⟨rfl, hb1⟩
  have B1 : Hid (Below w.heap.size w w1) := B0.out.trans (hb1.mono B0.out.size)
  clear hb1 B0 HC
  go_wp2_with fail
  go_ret
  exact ⟨rfl, B1.out⟩
end Go.Proofs.YtolkgnnjocmkdaaGreatDoor
/-
  Four cells that may be written.
-/
namespace Go.Proofs.YtolkgnnjocmkdaaGreatDoor
open Go.ChangeShapes Go.WideShapes Go.ChangeAt Go.RowKit
structure S4 (w : World) (b : Nat) (v0 v1 v2 v3 : Value) : Prop where
  c0 : w.cell? ⟨b, 0, none⟩ = some v0
  c1 : w.cell? ⟨b, 1, none⟩ = some v1
  c2 : w.cell? ⟨b, 2, none⟩ = some v2
  c3 : w.cell? ⟨b, 3, none⟩ = some v3
  fr : ∀ o, w.frozen? ⟨b, o, none⟩ = false
  lt : b < w.heap.size
section
variable {w w' : World} {b : Nat} {v0 v1 v2 v3 : Value}
theorem S4.keep (k : S4 w b v0 v1 v2 v3) (hb : Below w.heap.size w w') : S4 w' b v0 v1 v2 v3 :=
  ⟨by rw [hb.cell (p := ⟨b, 0, none⟩) k.lt]; exact k.c0, by rw [hb.cell (p := ⟨b, 1, none⟩) k.lt]; exact k.c1, by rw [hb.cell (p := ⟨b, 2, none⟩) k.lt]; exact k.c2, by rw [hb.cell (p := ⟨b, 3, none⟩) k.lt]; exact k.c3, fun o => by rw [hb.frozen (p := ⟨b, o, none⟩) k.lt]; exact k.fr o, Nat.lt_of_lt_of_le k.lt hb.size⟩
theorem S4.new (w : World) (v0 v1 v2 v3 : Value) (t : TypeId) : S4 (w.alloc (.cells #[v0, v1, v2, v3] t)) w.heap.size v0 v1 v2 v3 := ⟨by simp, by simp, by simp, by simp, fun o => by simp, by simp⟩
theorem S4.off (k : S4 w b v0 v1 v2 v3) {B i : Nat} {x : Value} (h : B ≠ b) : S4 (w.setCell ⟨B, i, none⟩ x) b v0 v1 v2 v3 := by
  have ne : ∀ o : Nat, (⟨B, i, none⟩ : Addr) ≠ ⟨b, o, none⟩ := fun o q => h (congrArg Addr.block q)
  exact ⟨by rw [World.cell?_setCell_other _ _ _ _ (ne _)]; exact k.c0, by rw [World.cell?_setCell_other _ _ _ _ (ne _)]; exact k.c1, by rw [World.cell?_setCell_other _ _ _ _ (ne _)]; exact k.c2, by rw [World.cell?_setCell_other _ _ _ _ (ne _)]; exact k.c3, fun o => by rw [World.frozen?_setCell]; exact k.fr o, by simpa using k.lt⟩
theorem S4.set0 (k : S4 w b v0 v1 v2 v3) (x : Value) : S4 (w.setCell ⟨b, 0, none⟩ x) b x v1 v2 v3 :=
  ⟨World.cell?_setCell_same _ _ _ k.c0, by rw [World.cell?_setCell_other _ _ _ _ (by intro q; have := congrArg Addr.off q; simp at this)]; exact k.c1, by rw [World.cell?_setCell_other _ _ _ _ (by intro q; have := congrArg Addr.off q; simp at this)]; exact k.c2, by rw [World.cell?_setCell_other _ _ _ _ (by intro q; have := congrArg Addr.off q; simp at this)]; exact k.c3, fun o => by rw [World.frozen?_setCell]; exact k.fr o, by simpa using k.lt⟩
theorem S4.set1 (k : S4 w b v0 v1 v2 v3) (x : Value) : S4 (w.setCell ⟨b, 1, none⟩ x) b v0 x v2 v3 :=
  ⟨by rw [World.cell?_setCell_other _ _ _ _ (by intro q; have := congrArg Addr.off q; simp at this)]; exact k.c0, World.cell?_setCell_same _ _ _ k.c1, by rw [World.cell?_setCell_other _ _ _ _ (by intro q; have := congrArg Addr.off q; simp at this)]; exact k.c2, by rw [World.cell?_setCell_other _ _ _ _ (by intro q; have := congrArg Addr.off q; simp at this)]; exact k.c3, fun o => by rw [World.frozen?_setCell]; exact k.fr o, by simpa using k.lt⟩
theorem S4.set2 (k : S4 w b v0 v1 v2 v3) (x : Value) : S4 (w.setCell ⟨b, 2, none⟩ x) b v0 v1 x v3 :=
  ⟨by rw [World.cell?_setCell_other _ _ _ _ (by intro q; have := congrArg Addr.off q; simp at this)]; exact k.c0, by rw [World.cell?_setCell_other _ _ _ _ (by intro q; have := congrArg Addr.off q; simp at this)]; exact k.c1, World.cell?_setCell_same _ _ _ k.c2, by rw [World.cell?_setCell_other _ _ _ _ (by intro q; have := congrArg Addr.off q; simp at this)]; exact k.c3, fun o => by rw [World.frozen?_setCell]; exact k.fr o, by simpa using k.lt⟩
theorem S4.set3 (k : S4 w b v0 v1 v2 v3) (x : Value) : S4 (w.setCell ⟨b, 3, none⟩ x) b v0 v1 v2 x :=
  ⟨by rw [World.cell?_setCell_other _ _ _ _ (by intro q; have := congrArg Addr.off q; simp at this)]; exact k.c0, by rw [World.cell?_setCell_other _ _ _ _ (by intro q; have := congrArg Addr.off q; simp at this)]; exact k.c1, by rw [World.cell?_setCell_other _ _ _ _ (by intro q; have := congrArg Addr.off q; simp at this)]; exact k.c2, World.cell?_setCell_same _ _ _ k.c3, fun o => by rw [World.frozen?_setCell]; exact k.fr o, by simpa using k.lt⟩
end
end Go.Proofs.YtolkgnnjocmkdaaGreatDoor
/-
  Stores, handed over by the laws: room, copies, comparisons.
-/
namespace Go.Proofs.YtolkgnnjocmkdaaGreatDoor
open Go.ChangeShapes Go.WideShapes Go.ChangeAt Go.RowKit Go.Sort
theorem EntsMine.off1 {W : World} {G : Nat} {l : List (Ent × EntR)} (h : EntsMine W G l) {b i : Nat} (v : Value) (hne : b < G) : EntsMine (W.setCell ⟨b, i, none⟩ v) G l := by
  have ne : ∀ o : Nat, (⟨b, i, none⟩ : Addr) ≠ ⟨G, o, none⟩ := fun o q => by have := congrArg Addr.block q; simp only at this; omega
  exact ⟨fun i q hq j hj => by rw [World.cell?_setCell_other _ _ _ _ (ne _)]; exact h.cell i q hq j hj, fun o => by rw [World.frozen?_setCell]; exact h.free o, by simpa using h.lt, fun q hq => (h.own q hq).off1 v (Nat.lt_trans hne (h.up q hq)), h.up, h.pw⟩
def szSt (left : Int) (tl kl : List (Ent × EntR)) : Int := if szEL left tl < 0 then -1 else if szEL (szEL left tl) kl < 0 then -1 else szEL (szEL left tl) kl
theorem szEs_le : ∀ (l : List (Ent × EntR)) (c : Int), c ≤ 1048576 → ¬ szEs c l < 0 → szEs c l ≤ c ∧ ∀ q ∈ l, EntFit q.1
  | [], c, _, _ => ⟨Int.le_refl _, fun q hq => by simp at hq⟩
  | q :: l, c, hc, h => by
    unfold szEs at h ⊢
    by_cases d : szE c q.1.key q.1.hs q.1.bl q.1.ts < 0
    · rw [if_pos d] at h; omega
    · rw [if_neg d] at h ⊢
      have r := szE_room hc d
      have z := szEs_le l _ (by omega) h
      refine ⟨by omega, fun p hp => ?_⟩
      rcases List.mem_cons.1 hp with rfl | hp
      · exact ⟨r.2.1, r.2.2.1, r.2.2.2.1⟩
      · exact z.2 p hp
theorem szEL_room {l : List (Ent × EntR)} {left : Int} (hc : left ≤ 1048576) (h : ¬ szEL left l < 0) : szEL left l ≤ left ∧ l.length ≤ 1048576 ∧ ∀ q ∈ l, EntFit q.1 := by
  unfold szEL at h ⊢
  by_cases d : left - (l.length : Int) < 0
  · rw [if_pos d] at h; omega
  · rw [if_neg d] at h ⊢
    have z := szEs_le l _ (by omega) h
    exact ⟨by omega, by omega, z.2⟩
/-- A store of one's own: its two lists, apart. -/
structure StoMine (W : World) (G1 G2 : Nat) (tl kl : List (Ent × EntR)) : Prop where
  t : EntsMine W G1 tl
  k : EntsMine W G2 kl
  lt : G1 < G2
  up : ∀ q ∈ tl, blk q.2.ta < G2
theorem StoMine.keep {W W' : World} {G1 G2 : Nat} {tl kl : List (Ent × EntR)} (h : StoMine W G1 G2 tl kl) (hb : Below W.heap.size W W') : StoMine W' G1 G2 tl kl := ⟨h.t.keep hb, h.k.keep hb, h.lt, h.up⟩
end Go.Proofs.YtolkgnnjocmkdaaGreatDoor
/-
  A store that is marked all over: what lies outside of it is as it was.
-/
namespace Go.Proofs.YtolkgnnjocmkdaaGreatDoor
open Go.ChangeShapes Go.WideShapes Go.ChangeAt Go.RowKit Go.Sort
/-- What was there from block hi on is as it was. -/
structure Above (hi : Nat) (w w' : World) : Prop where
  size : w.heap.size ≤ w'.heap.size
  cell : ∀ b o, hi ≤ b → b < w.heap.size → w'.cell? ⟨b, o, none⟩ = w.cell? ⟨b, o, none⟩
  frozen : ∀ b o, hi ≤ b → b < w.heap.size → w'.frozen? ⟨b, o, none⟩ = w.frozen? ⟨b, o, none⟩
theorem Above.refl (hi : Nat) (w : World) : Above hi w w := ⟨Nat.le_refl _, fun _ _ _ _ => rfl, fun _ _ _ _ => rfl⟩
theorem Above.trans {hi : Nat} {w w1 w2 : World} (h : Above hi w w1) (k : Above hi w1 w2) : Above hi w w2 :=
  ⟨Nat.le_trans h.size k.size, fun b o hb hn => by rw [k.cell b o hb (Nat.lt_of_lt_of_le hn h.size), h.cell b o hb hn], fun b o hb hn => by rw [k.frozen b o hb (Nat.lt_of_lt_of_le hn h.size), h.frozen b o hb hn]⟩
theorem Above.apart {hi B : Nat} {w w' : World} (h : Apart B w w') (hB : B < hi) : Above hi w w' :=
  ⟨h.size, fun b o hb hn => h.cell b o hn (by omega), fun b o hb hn => h.frozen b o hn (by omega)⟩
theorem Above.below {hi : Nat} {w w' : World} (h : Below w.heap.size w w') : Above hi w w' :=
  ⟨h.size, fun b o _ hn => h.cell (p := ⟨b, o, none⟩) hn, fun b o _ hn => h.frozen (p := ⟨b, o, none⟩) hn⟩
theorem QMine.apart {W W' : World} {B b : Nat} {l : List Hdr} (h : QMine W b l) (k : Apart B W W') (hne : b ≠ B) : QMine W' b l :=
  ⟨fun i r hr => by rw [k.cell b _ h.lt hne, k.cell b _ h.lt hne]; exact h.at0 i r hr, fun o => by rw [k.frozen b o h.lt hne]; exact h.free o, Nat.lt_of_lt_of_le h.lt k.size⟩
theorem BMine.apart {W W' : World} {B b : Nat} {l : List UInt8} (h : BMine W b l) (k : Apart B W W') (hne : b ≠ B) : BMine W' b l :=
  ⟨fun i r hr => by rw [k.cell b _ h.lt hne]; exact h.at0 i r hr, fun o ho => by rw [k.frozen b o h.lt hne]; exact h.free o ho, Nat.lt_of_lt_of_le h.lt k.size⟩
theorem TMine.apart {W W' : World} {B b : Nat} {l : List ByteArray} (h : TMine W b l) (k : Apart B W W') (hne : b ≠ B) : TMine W' b l :=
  ⟨fun i r hr => by rw [k.cell b _ h.lt hne]; exact h.at0 i r hr, fun o ho => by rw [k.frozen b o h.lt hne]; exact h.free o ho, Nat.lt_of_lt_of_le h.lt k.size⟩
theorem EntOwn.apart {W W' : World} {B : Nat} {x : Ent} {r : EntR} (h : EntOwn W x r) (k : Apart B W W') (hne : B < blk r.ha) : EntOwn W' x r := by
  obtain ⟨B1, B2, B3, rfl, h1, h2, h3, h4, h5⟩ := h
  have q : B < B1 := hne
  exact ⟨B1, B2, B3, rfl, h1.apart k (by omega), h2.apart k (by omega), h3.apart k (by omega), h4, h5⟩
theorem HRoom.apart {W W' : World} {B G m : Nat} (h : HRoom W G m) (hG : G < W.heap.size) (k : Apart B W W') (hne : G ≠ B) : HRoom W' G m := fun j hj => by
  obtain ⟨⟨u, hu⟩, hf⟩ := h j hj
  exact ⟨⟨u, by rw [k.cell G j hG hne]; exact hu⟩, by rw [k.frozen G j hG hne]; exact hf⟩
/-- The entries from k on are as they were. -/
structure EFrom (W : World) (G k n : Nat) (l : List (Ent × EntR)) : Prop where
  cell : ∀ (i : Nat) q, k ≤ i → l[i]? = some q → ∀ j, j < 13 → W.cell? ⟨G, i * 13 + j, none⟩ = (entW q.1 q.2)[j]?
  own : ∀ (i : Nat) q, k ≤ i → l[i]? = some q → EntOwn W q.1 q.2
  room : HRoom W G (n * 13)
  lt : G < W.heap.size
theorem EFrom.next {W : World} {G k n : Nat} {l : List (Ent × EntR)} (h : EFrom W G k n l) : EFrom W G (k + 1) n l := ⟨fun i q hi => h.cell i q (by omega), fun i q hi => h.own i q (by omega), h.room, h.lt⟩
theorem EFrom.apart {W W' : World} {B G k n : Nat} {l : List (Ent × EntR)} (h : EFrom W G k n l) (a : Apart B W W') (hG : G ≠ B) (hB : ∀ (i : Nat) q, k ≤ i → l[i]? = some q → B < blk q.2.ha) : EFrom W' G k n l :=
  ⟨fun i q hi hq j hj => by rw [a.cell G _ h.lt hG]; exact h.cell i q hi hq j hj, fun i q hi hq => (h.own i q hi hq).apart a (hB i q hi hq), h.room.apart h.lt a hG, Nat.lt_of_lt_of_le h.lt a.size⟩
theorem EFrom.below {W W' : World} {G k n : Nat} {l : List (Ent × EntR)} (h : EFrom W G k n l) (b : Below W.heap.size W W') : EFrom W' G k n l :=
  ⟨fun i q hi hq j hj => by rw [b.cell (p := ⟨G, i * 13 + j, none⟩) h.lt]; exact h.cell i q hi hq j hj, fun i q hi hq => (h.own i q hi hq).keep b, h.room.keep b, Nat.lt_of_lt_of_le h.lt b.size⟩
theorem EFrom.set {W : World} {G k n : Nat} {l : List (Ent × EntR)} (h : EFrom W G (k + 1) n l) (hup : ∀ q ∈ l, G < blk q.2.ha) (o : Nat) (ho : o < (k + 1) * 13) (u : Value) : EFrom (W.setCell ⟨G, o, none⟩ u) G (k + 1) n l := by
  refine ⟨fun i q hi hq j hj => ?_, fun i q hi hq => (h.own i q hi hq).off1 u (hup q (List.mem_of_getElem? hq)), h.room.set _ _, by simpa using h.lt⟩
  rw [World.cell?_setCell_other _ _ _ _ (hoff_ne (by omega))]
  exact h.cell i q hi hq j hj
/-- While entry k is being marked. -/
structure MS (w : World) (lo hi G n k : Nat) (l : List (Ent × EntR)) (v2 v3 v11 : Value) (W : World) : Prop where
  fr : EFrom W G (k + 1) n l
  c2 : W.cell? ⟨G, k * 13 + 2, none⟩ = some v2
  c3 : W.cell? ⟨G, k * 13 + 3, none⟩ = some v3
  c11 : W.cell? ⟨G, k * 13 + 11, none⟩ = some v11
  bl : Below lo w W
  ab : Above hi w W
  le : lo ≤ w.heap.size
section
variable {w W W' : World} {lo hi G n k : Nat} {l : List (Ent × EntR)} {v2 v3 v11 : Value}
theorem MS.below (h : MS w lo hi G n k l v2 v3 v11 W) (b : Below W.heap.size W W') : MS w lo hi G n k l v2 v3 v11 W' :=
  ⟨h.fr.below b, by rw [b.cell (p := ⟨G, k * 13 + 2, none⟩) h.fr.lt]; exact h.c2, by rw [b.cell (p := ⟨G, k * 13 + 3, none⟩) h.fr.lt]; exact h.c3, by rw [b.cell (p := ⟨G, k * 13 + 11, none⟩) h.fr.lt]; exact h.c11, h.bl.trans (b.mono (Nat.le_trans h.le h.bl.size)), h.ab.trans (.below b), h.le⟩
theorem MS.set (h : MS w lo hi G n k l v2 v3 v11 W) (hup : ∀ q ∈ l, G < blk q.2.ha) (hlo : lo ≤ G) (hhi : G < hi) (j : Nat) (hj : j < 13) (h2 : j ≠ 2) (h3 : j ≠ 3) (h4 : j ≠ 11) (u : Value) : MS w lo hi G n k l v2 v3 v11 (W.setCell ⟨G, k * 13 + j, none⟩ u) :=
  ⟨h.fr.set hup _ (by omega) u, by rw [World.cell?_setCell_other _ _ _ _ (hoff_ne (by omega))]; exact h.c2, by rw [World.cell?_setCell_other _ _ _ _ (hoff_ne (by omega))]; exact h.c3, by rw [World.cell?_setCell_other _ _ _ _ (hoff_ne (by omega))]; exact h.c11, h.bl.setCell hlo u, h.ab.trans (.apart (Apart.set G _ W u) hhi), h.le⟩
theorem MS.apart (h : MS w lo hi G n k l v2 v3 v11 W) {B : Nat} (a : Apart B W W') (b : Below B W W') (hlo : lo ≤ B) (hhi : B < hi) (hG : G < B) (hB : ∀ (i : Nat) q, k + 1 ≤ i → l[i]? = some q → B < blk q.2.ha) : MS w lo hi G n k l v2 v3 v11 W' :=
  ⟨h.fr.apart a (by omega) hB, by rw [a.cell G _ h.fr.lt (by omega)]; exact h.c2, by rw [a.cell G _ h.fr.lt (by omega)]; exact h.c3, by rw [a.cell G _ h.fr.lt (by omega)]; exact h.c11, h.bl.trans (b.mono hlo), h.ab.trans (.apart a hhi), h.le⟩
end
set_option maxHeartbeats 4000000 in
theorem markTS_row (W : World) (g n cap k : Nat) (hn : n ≤ 1048576) (hk0 : 1 ≤ k) (hk : k ≤ 100000000000000) (hg : g < W.heap.size) (hm : HRoom W g n) :
    Calls Tryz.prog 72 #[.slice (some ⟨g, 0, none⟩) n cap, .int .i64 (k : Int)] W fun e w' => e = .returned (.int .i64 ((k + n : Nat) : Int)) ∧ Apart g W w' ∧ Below g W w' := by
  have HM : Hid (HRoom W g n) := hm
  clear hm
  go_enter Tryz.func72, Tryz.ntmps72
  go_wp2_with fail
  go_loopw [1, 5] (fun x i wr => ∃ j : Nat, j ≤ n ∧ i = .int .i64 (j : Int) ∧ x = .int .i64 ((k + j : Nat) : Int) ∧ HRoom wr g n ∧ g < wr.heap.size ∧ Apart g W wr ∧ Below g W wr) (fun _ i _ => n - (intOf i).toNat)
  case atStart => exact ⟨0, Nat.zero_le _, rfl, rfl, HM.out, hg, .refl _ _, Below.refl _ _⟩
  case round =>
    obtain ⟨j, hj, rfl, rfl, hm, hgw, ha, hb⟩ := hrel
    by_cases hlt : j < n
    · have C : Hid (Calls Tryz.prog 128 #[.int .i64 ((k + j : Nat) : Int)] wr fun e w' => e = .returned (.string (mkT (k + j))) ∧ Below wr.heap.size wr w') := markText_any (k + j) (by omega) (by omega) wr
      have HK : Hid (HRoom wr g n ∧ Apart g W wr ∧ Below g W wr) := ⟨hm, ha, hb⟩
      have gj : (j : Int) < n := by omega
      have gj0 : (0 : Int) ≤ j := by omega
      clear hm ha hb HM
      go_wp2_with fail
      refine C.out.mono ?_
      rintro e w2 ⟨rfl, hb2⟩
      have hm2 := HK.out.1.keep hb2
      obtain ⟨⟨u, hu⟩, hf⟩ := hm2 j hlt
      have HN : Hid (∀ v, HRoom (w2.setCell ⟨g, j, none⟩ v) g n ∧ g < (w2.setCell ⟨g, j, none⟩ v).heap.size ∧ Apart g W (w2.setCell ⟨g, j, none⟩ v) ∧ Below g W (w2.setCell ⟨g, j, none⟩ v)) := fun v => ⟨hm2.set _ _, by simpa using Nat.lt_of_lt_of_le hgw hb2.size, (HK.out.2.1.trans (.below hb2)).trans (Apart.set g _ _ _), (HK.out.2.2.trans (hb2.mono (Nat.le_of_lt hgw))).setCell (Nat.le_refl _) _⟩
      clear hb2 hm2 HK C
      go_wp2_with fail
      go_roundw
      case rel => exact ⟨j + 1, by omega, by go_num, by go_num, (HN.out _).1, (HN.out _).2.1, (HN.out _).2.2.1, (HN.out _).2.2.2⟩
      case measure => simp [intOf]; omega
    · have e : j = n := by omega
      subst e
      go_wp2_with fail
      go_ret
      exact ⟨rfl, ha, hb⟩
theorem BMine.room {W : World} {B : Nat} {l : List UInt8} (h : BMine W B l) : HRoom W B l.length := fun j hj => ⟨⟨_, by have := h.at0 j l[j] (List.getElem?_eq_getElem hj); rw [Nat.zero_add] at this; exact this⟩, h.free j hj⟩
theorem TMine.room {W : World} {B : Nat} {l : List ByteArray} (h : TMine W B l) : HRoom W B l.length := fun j hj => ⟨⟨_, by have := h.at0 j l[j] (List.getElem?_eq_getElem hj); rw [Nat.zero_add] at this; exact this⟩, h.free j hj⟩
theorem BAV.ap {g n c : Nat} {w w' : World} (h : BAV (.slice (some ⟨g, 0, none⟩) n c) w w') : Apart g w w' :=
  ⟨by rw [h.size]; exact Nat.le_refl _, fun b o hb hn => h.cell b o hb (by simp only [Value.ownBlock, ne_eq, Option.some.injEq]; omega), fun b o _ _ => h.frozen b o⟩
end Go.Proofs.YtolkgnnjocmkdaaGreatDoor
/-
  A store that a law is about: what its own helpers make of it.
-/
namespace Go.Proofs.YtolkgnnjocmkdaaGreatDoor
open Go.ChangeShapes Go.WideShapes Go.ChangeAt Go.RowKit Go.Sort
/-- A store that came in. -/
structure StoArg (w : World) (ta ka : Option Addr) (tl kl : List (Ent × EntR)) : Prop where
  t : EntsIn w ta tl
  k : EntsIn w ka kl
  tn : tl.length ≤ maxLen
  kn : kl.length ≤ maxLen
  ts : ∀ q ∈ tl, EntSm q.1
  ks : ∀ q ∈ kl, EntSm q.1
theorem StoArg.keep {w w' : World} {ta ka : Option Addr} {tl kl : List (Ent × EntR)} (h : StoArg w ta ka tl kl) (hb : Below w.heap.size w w') : StoArg w' ta ka tl kl := ⟨h.t.keep hb, h.k.keep hb, h.tn, h.kn, h.ts, h.ks⟩
structure StoFit (tl kl : List (Ent × EntR)) : Prop where
  tn : tl.length ≤ 1048576
  kn : kl.length ≤ 1048576
  tf : ∀ q ∈ tl, EntFit q.1
  kf : ∀ q ∈ kl, EntFit q.1
theorem szSt_room {left : Int} {tl kl : List (Ent × EntR)} (hl : left ≤ 1048576) (h : ¬ szSt left tl kl < 0) : StoFit tl kl ∧ szSt left tl kl ≤ left := by
  unfold szSt at h ⊢
  by_cases c1 : szEL left tl < 0
  · rw [if_pos c1] at h; omega
  rw [if_neg c1] at h ⊢
  by_cases c2 : szEL (szEL left tl) kl < 0
  · rw [if_pos c2] at h; omega
  rw [if_neg c2]
  have r1 := szEL_room hl c1
  have r2 := szEL_room (Int.le_trans r1.1 hl) c2
  exact ⟨⟨r1.2.1, r2.2.1, r1.2.2, r2.2.2⟩, by omega⟩
/-- A copy of it, its holder's own. -/
def StoNew (W : World) (G1 G2 : Nat) (tl kl : List (Ent × EntR)) : Prop := ∃ tl' kl', tl'.map Prod.fst = tl.map Prod.fst ∧ kl'.map Prod.fst = kl.map Prod.fst ∧ StoMine W G1 G2 tl' kl'
theorem StoNew.keep {W W' : World} {G1 G2 : Nat} {tl kl : List (Ent × EntR)} (h : StoNew W G1 G2 tl kl) (hb : Below W.heap.size W W') : StoNew W' G1 G2 tl kl := by
  obtain ⟨a, b, e1, e2, m⟩ := h
  exact ⟨a, b, e1, e2, m.keep hb⟩
theorem fit_map {l m : List (Ent × EntR)} (e : l.map Prod.fst = m.map Prod.fst) (h : ∀ q ∈ m, EntFit q.1) : ∀ q ∈ l, EntFit q.1 := by
  intro q hq
  have : q.1 ∈ m.map Prod.fst := by rw [← e]; exact List.mem_map_of_mem hq
  obtain ⟨p, hp, e2⟩ := List.mem_map.1 this
  rw [← e2]
  exact h p hp
theorem len_map {l m : List (Ent × EntR)} (e : l.map Prod.fst = m.map Prod.fst) : l.length = m.length := by
  have := congrArg List.length e
  simpa using this
end Go.Proofs.YtolkgnnjocmkdaaGreatDoor
/-
  A whole store that is marked: what lies outside of it is as it was.
-/
namespace Go.Proofs.YtolkgnnjocmkdaaGreatDoor
open Go.ChangeShapes Go.WideShapes Go.ChangeAt Go.RowKit Go.Sort
theorem Above.mono {h1 h2 : Nat} {w w' : World} (h : Above h1 w w') (hh : h1 ≤ h2) : Above h2 w w' := ⟨h.size, fun b o hb hn => h.cell b o (by omega) hn, fun b o hb hn => h.frozen b o (by omega) hn⟩
theorem EntOwn.above {W W' : World} {hi : Nat} {x : Ent} {r : EntR} (h : EntOwn W x r) (k : Above hi W W') (hh : hi ≤ blk r.ha) : EntOwn W' x r := by
  obtain ⟨B1, B2, B3, rfl, h1, h2, h3, h4, h5⟩ := h
  have q : hi ≤ B1 := hh
  refine ⟨B1, B2, B3, rfl, ⟨fun i r hr => ?_, fun o => ?_, ?_⟩, ⟨fun i r hr => ?_, fun o ho => ?_, ?_⟩, ⟨fun i r hr => ?_, fun o ho => ?_, ?_⟩, h4, h5⟩
  · rw [k.cell B1 _ q h1.lt, k.cell B1 _ q h1.lt]; exact h1.at0 i r hr
  · rw [k.frozen B1 o q h1.lt]; exact h1.free o
  · exact Nat.lt_of_lt_of_le h1.lt k.size
  · rw [k.cell B2 _ (by omega) h2.lt]; exact h2.at0 i r hr
  · rw [k.frozen B2 o (by omega) h2.lt]; exact h2.free o ho
  · exact Nat.lt_of_lt_of_le h2.lt k.size
  · rw [k.cell B3 _ (by omega) h3.lt]; exact h3.at0 i r hr
  · rw [k.frozen B3 o (by omega) h3.lt]; exact h3.free o ho
  · exact Nat.lt_of_lt_of_le h3.lt k.size
theorem EntsMine.above {W W' : World} {hi G : Nat} {l : List (Ent × EntR)} (h : EntsMine W G l) (k : Above hi W W') (hh : hi ≤ G) : EntsMine W' G l :=
  ⟨fun i q hq j hj => by rw [k.cell G _ hh h.lt]; exact h.cell i q hq j hj, fun o => by rw [k.frozen G o hh h.lt]; exact h.free o, Nat.lt_of_lt_of_le h.lt k.size, fun q hq => (h.own q hq).above k (Nat.le_trans hh (Nat.le_of_lt (h.up q hq))), h.up, h.pw⟩
theorem EntsMine.room {W : World} {G : Nat} {l : List (Ent × EntR)} (h : EntsMine W G l) : HRoom W G (l.length * 13) := fun j hj => by
  have hm : j / 13 * 13 + j % 13 = j := by omega
  obtain ⟨q, hq⟩ : ∃ r, l[j / 13]? = some r := ⟨l[j / 13]'(by omega), List.getElem?_eq_getElem _⟩
  have c := h.cell (j / 13) q hq (j % 13) (by omega)
  rw [hm] at c
  exact ⟨⟨_, c.trans (List.getElem?_eq_getElem (by rw [show (entW q.1 q.2).length = 13 from rfl]; omega))⟩, h.free j⟩
end Go.Proofs.YtolkgnnjocmkdaaGreatDoor
/-
  An entry whose lists are its own: marked, held.
-/
namespace Go.Proofs.YtolkgnnjocmkdaaGreatDoor
open Go.ChangeShapes Go.WideShapes Go.ChangeAt Go.RowKit Go.Sort
def BLV (w : World) (v : Value) (l : List UInt8) : Prop :=
  (v = .slice none 0 0 ∧ l = []) ∨ ∃ g cap, v = .slice (some ⟨g, 0, none⟩) l.length cap ∧ g < w.heap.size ∧ BAt w g 0 l ∧ ∀ o, w.frozen? ⟨g, o, none⟩ = false
theorem RowB.lv {w : World} {base : Nat} {v : Value} {l : List UInt8} (h : RowB w base v l) : BLV w v l ∧ ∀ b, v.ownBlock = some b → base ≤ b := by
  have h0 := h
  obtain ⟨_, h1 | ⟨g, c, cur, rfl, hg, hh, _⟩⟩ := h
  · have e : l = [] := List.eq_nil_of_length_eq_zero h1.2
    exact ⟨.inl ⟨h1.1, e⟩, fun b hb => by rw [h1.1] at hb; cases hb⟩
  · refine ⟨.inr ⟨g, c, rfl, (Array.getElem?_eq_some_iff.1 hh).1, fun i q hq => ?_, fun o => ?_⟩, fun b hb => ?_⟩
    · have hi := (List.getElem?_eq_some_iff.1 hq).1
      have c1 := World.ownsRow.cellAt h0 i (by omega)
      rw [Nat.zero_add, c1]
      unfold cBytes
      rw [List.getElem?_map, hq]
      rfl
    · simp [World.frozen?, hh]
    · simp only [Value.ownBlock, Option.some.injEq] at hb; omega
theorem RowT.lv {w : World} {base : Nat} {v : Value} {l : List ByteArray} (h : RowT w base v l) : TLV w v l ∧ ∀ b, v.ownBlock = some b → base ≤ b := by
  have h0 := h
  obtain ⟨_, h1 | ⟨g, c, cur, rfl, hg, hh, _⟩⟩ := h
  · have e : l = [] := List.eq_nil_of_length_eq_zero h1.2
    exact ⟨.inl ⟨h1.1, e⟩, fun b hb => by rw [h1.1] at hb; cases hb⟩
  · refine ⟨.inr ⟨g, c, rfl, (Array.getElem?_eq_some_iff.1 hh).1, fun i q hq => ?_, fun o => ?_⟩, fun b hb => ?_⟩
    · have hi := (List.getElem?_eq_some_iff.1 hq).1
      have c1 := World.ownsRow.cellAt h0 i (by omega)
      rw [Nat.zero_add, c1]
      unfold cTexts
      rw [List.getElem?_map, hq]
      rfl
    · simp [World.frozen?, hh]
    · simp only [Value.ownBlock, Option.some.injEq] at hb; omega
theorem RowH.lv {w : World} {base : Nat} {v : Value} {l : List Hdr} (h : RowH w base v l) : HLV w v l ∧ ∀ b, v.ownBlock = some b → base ≤ b := OwnH.lv h
theorem BLV.below {w w' : World} {v : Value} {l : List UInt8} (h : BLV w v l) (hb : Below w.heap.size w w') : BLV w' v l := by
  rcases h with h | ⟨g, c, e, hg, hi, hf⟩
  · exact .inl h
  · exact .inr ⟨g, c, e, Nat.lt_of_lt_of_le hg hb.size, hi.keep hb, fun o => by rw [hb.frozen (p := ⟨g, o, none⟩) hg, hf]⟩
theorem BLV.av {w w' : World} {v v1 : Value} {l : List UInt8} (h : BLV w v1 l) (k : HAV v w w') (hne : ∀ b, v1.ownBlock = some b → v.ownBlock ≠ some b) : BLV w' v1 l := by
  rcases h with h | ⟨g, c, rfl, hg, hi, hf⟩
  · exact .inl h
  · have hn := hne g rfl
    exact .inr ⟨g, c, rfl, Nat.lt_of_lt_of_le hg k.size, fun i r hr => by rw [k.cell g _ hg hn]; exact hi i r hr, fun o => by rw [k.frozen g o hg hn, hf]⟩
theorem MarkB.hav {w w' : World} {v u : Value} {k n : Nat} (h : MarkB w v k n) (ha : HAV u w w') (hne : ∀ b, v.ownBlock = some b → u.ownBlock ≠ some b) : MarkB w' v k n := by
  rcases h with h | ⟨g, c, rfl, hg, hc⟩
  · exact .inl h
  · exact .inr ⟨g, c, rfl, Nat.lt_of_lt_of_le hg ha.size, fun i hi => by rw [ha.cell g i hg (hne g rfl)]; exact hc i hi⟩
/-! ### from any number on -/
theorem markHeaderS_lvk (w : World) (v : Value) (l : List Hdr) (k : Nat) (hk0 : 1 ≤ k) (hk : k ≤ 100000000000000) (hl : l.length ≤ 1048576) (h : HLV w v l) (base : Nat) (hb : ∀ b, v.ownBlock = some b → base ≤ b) (hbs : base ≤ w.heap.size) :
    Calls Tryz.prog 70 #[v, .int .i64 (k : Int)] w fun e w' => e = .returned (.int .i64 ((k + 2 * l.length : Nat) : Int)) ∧ HLV w' v (mkHL k l.length) ∧ HAV v w w' ∧ Below base w w' := by
  rcases h with ⟨rfl, rfl⟩ | ⟨g, c, rfl, hg, hi, hf⟩
  · exact (markHeaderS_nil w none 0 k).mono fun _ _ ⟨h1, h2⟩ => ⟨h1, .inl ⟨rfl, rfl⟩, .below h2, h2.mono hbs⟩
  · refine (markHeaderS_any w g 0 c l.length k l rfl hl hk0 hk hi hf hg).mono ?_
    rintro e w' ⟨h1, h2, h3, h4, h5⟩
    have hne : ∀ b, (Value.slice (some ⟨g, 0, none⟩) l.length c).ownBlock ≠ some b → b ≠ g := fun b hb e => hb (by subst e; rfl)
    refine ⟨h1, ?_, ⟨h3.size, fun b o hb hn => h3.cell b o hb (hne b hn), fun b o hb hn => h3.frozen b o hb (hne b hn)⟩, h4.mono (hb g rfl)⟩
    exact .inr ⟨g, c, by rw [mkHL_len], Nat.lt_of_lt_of_le hg h3.size, h2, h5⟩
theorem markStringS_lvk (w : World) (v : Value) (l : List ByteArray) (k : Nat) (hk0 : 1 ≤ k) (hk : k ≤ 100000000000000) (hl : l.length ≤ 1048576) (h : TLV w v l) (base : Nat) (hb : ∀ b, v.ownBlock = some b → base ≤ b) (hbs : base ≤ w.heap.size) :
    Calls Tryz.prog 72 #[v, .int .i64 (k : Int)] w fun e w' => e = .returned (.int .i64 ((k + l.length : Nat) : Int)) ∧ TLV w' v (mkTL k l.length) ∧ HAV v w w' ∧ Below base w w' := by
  rcases h with ⟨rfl, rfl⟩ | ⟨g, c, rfl, hg, hi, hf⟩
  · exact (markStringS_nil w none 0 k).mono fun _ _ ⟨h1, h2⟩ => ⟨h1, .inl ⟨rfl, rfl⟩, .below h2, h2.mono hbs⟩
  · refine (markStringS_any w g 0 c l.length k l rfl hl hk0 hk hi hf hg).mono ?_
    rintro e w' ⟨h1, h2, h3, h4, h5⟩
    have hne : ∀ b, (Value.slice (some ⟨g, 0, none⟩) l.length c).ownBlock ≠ some b → b ≠ g := fun b hb e => hb (by subst e; rfl)
    refine ⟨h1, ?_, ⟨h3.size, fun b o hb hn => h3.cell b o hb (hne b hn), fun b o hb hn => h3.frozen b o hb (hne b hn)⟩, h4.mono (hb g rfl)⟩
    exact .inr ⟨g, c, by rw [mkTL_len], Nat.lt_of_lt_of_le hg h3.size, h2, h5⟩
set_option maxHeartbeats 1000000 in
theorem markByteS_nil (w : World) (a : Option Addr) (c k : Nat) :
    Calls Tryz.prog 71 #[.slice a 0 c, .int .i64 (k : Int)] w fun e w' => e = .returned (.int .i64 (k : Int)) ∧ Below w.heap.size w w' := by
  go_enter Tryz.func71, Tryz.ntmps71
  go_wp2_with fail
  go_loop [1, 5] (fun x i => x = .int .i64 (k : Int) ∧ i = .int .i64 0) (fun _ _ => 0)
  case atStart => exact ⟨rfl, rfl⟩
  case round =>
    obtain ⟨rfl, rfl⟩ := hrel
    go_wp2_with fail
    go_ret
    exact ⟨rfl, Below.refl _ _⟩
set_option maxHeartbeats 1000000 in
theorem heldByteS_nil (w : World) (a : Option Addr) (c k : Nat) :
    Calls Tryz.prog 143 #[.slice a 0 c, .int .i64 (k : Int)] w fun e w' => e = .returned (.int .i64 (k : Int)) ∧ Below w.heap.size w w' := by
  go_enter Tryz.func143, Tryz.ntmps143
  go_wp2_with fail
  go_loop [1, 5] (fun x i => x = .int .i64 (k : Int) ∧ i = .int .i64 0) (fun _ _ => 0)
  case atStart => exact ⟨rfl, rfl⟩
  case round =>
    obtain ⟨rfl, rfl⟩ := hrel
    go_wp2_with fail
    go_ret
    exact ⟨rfl, Below.refl _ _⟩
theorem markByteS_lvk (w : World) (v : Value) (l : List UInt8) (k : Nat) (hk : k ≤ 100000000000000) (hl : l.length ≤ 1048576) (h : BLV w v l) (base : Nat) (hb : ∀ b, v.ownBlock = some b → base ≤ b) (hbs : base ≤ w.heap.size) :
    Calls Tryz.prog 71 #[v, .int .i64 (k : Int)] w fun e w' => e = .returned (.int .i64 ((k + l.length : Nat) : Int)) ∧ MarkB w' v k l.length ∧ HAV v w w' ∧ Below base w w' := by
  rcases h with ⟨rfl, rfl⟩ | ⟨g, c, rfl, hg, hi, hf⟩
  · exact (markByteS_nil w none 0 k).mono fun _ _ ⟨h1, h2⟩ => ⟨h1, .inl rfl, .below h2, h2.mono hbs⟩
  · refine (markByteS_row w g l.length c k base hl hk (hb g rfl) hg ?_).mono ?_
    · intro j hj
      have := hi j l[j] (List.getElem?_eq_getElem hj)
      rw [Nat.zero_add] at this
      exact ⟨⟨_, this⟩, hf j⟩
    · rintro e w' ⟨h1, h2, h3, h4⟩
      exact ⟨h1, h2, ⟨Nat.le_of_eq h3.size.symm, h3.cell, fun b o _ _ => h3.frozen b o⟩, h4⟩
theorem heldHeaderS_lvk (w : World) (v : Value) (n k : Nat) (hk0 : 1 ≤ k) (hk : k ≤ 100000000000000) (hl : n ≤ 1048576) (h : HLV w v (mkHL k n)) :
    Calls Tryz.prog 129 #[v, .int .i64 (k : Int)] w fun e w' => e = .returned (.int .i64 ((k + 2 * n : Nat) : Int)) ∧ Below w.heap.size w w' := by
  rcases h with ⟨rfl, h0⟩ | ⟨g, c, rfl, _, hi, _⟩
  · have e := congrArg List.length h0
    rw [mkHL_len] at e
    simp at e
    subst e
    exact heldHeaderS_nil w none 0 k
  · rw [mkHL_len]
    exact heldHeaderS_any w g 0 c n k hl hk0 hk hi
theorem heldStringS_lvk (w : World) (v : Value) (n k : Nat) (hk0 : 1 ≤ k) (hk : k ≤ 100000000000000) (hl : n ≤ 1048576) (h : TLV w v (mkTL k n)) :
    Calls Tryz.prog 144 #[v, .int .i64 (k : Int)] w fun e w' => e = .returned (.int .i64 ((k + n : Nat) : Int)) ∧ Below w.heap.size w w' := by
  rcases h with ⟨rfl, h0⟩ | ⟨g, c, rfl, _, hi, _⟩
  · have e := congrArg List.length h0
    rw [mkTL_len] at e
    simp at e
    subst e
    exact heldStringS_nil w none 0 k
  · rw [mkTL_len]
    exact heldStringS_any w g 0 c n k hl hk0 hk hi
theorem heldByteS_lvk (w : World) (a : Option Addr) (n c k : Nat) (hk : k ≤ 100000000000000) (hl : n ≤ 1048576) (h : MarkB w (.slice a n c) k n) :
    Calls Tryz.prog 143 #[.slice a n c, .int .i64 (k : Int)] w fun e w' => e = .returned (.int .i64 ((k + n : Nat) : Int)) ∧ Below w.heap.size w w' := by
  rcases h with rfl | ⟨g, c', e, _, hc⟩
  · exact heldByteS_nil w a c k
  · simp only [Value.slice.injEq] at e
    obtain ⟨rfl, _, rfl⟩ := e
    exact (heldByteS_row w g n c k hl hk hc).mono fun _ _ ⟨h1, h2⟩ => ⟨h1, h2 ▸ Below.refl _ _⟩
/-! ### an entry -/
structure EntLV (w : World) (base : Nat) (x : Ent) (r : EntR) : Prop where
  h : HLV w (.slice r.ha x.hs.length r.hc) x.hs
  b : BLV w (.slice r.ba x.bl.length r.bc) x.bl
  t : TLV w (.slice r.ta x.ts.length r.tc) x.ts
  gh : ∀ g, (Value.slice r.ha x.hs.length r.hc).ownBlock = some g → base ≤ g
  gb : ∀ g, (Value.slice r.ba x.bl.length r.bc).ownBlock = some g → base ≤ g
  gt : ∀ g, (Value.slice r.ta x.ts.length r.tc).ownBlock = some g → base ≤ g
  n1 : ∀ g, (Value.slice r.ha x.hs.length r.hc).ownBlock = some g → (Value.slice r.ba x.bl.length r.bc).ownBlock ≠ some g
  n2 : ∀ g, (Value.slice r.ha x.hs.length r.hc).ownBlock = some g → (Value.slice r.ta x.ts.length r.tc).ownBlock ≠ some g
  n3 : ∀ g, (Value.slice r.ba x.bl.length r.bc).ownBlock = some g → (Value.slice r.ta x.ts.length r.tc).ownBlock ≠ some g
  hc : x.hs.length ≤ r.hc
  bc : x.bl.length ≤ r.bc
  tc : x.ts.length ≤ r.tc
def Flat (v : Value) : Prop := ∃ n c, v = .slice none n c ∨ ∃ g, v = .slice (some ⟨g, 0, none⟩) n c
theorem flat_ne {a b : Option Addr} {n c m d : Nat} (ha : Flat (.slice a n c)) (hb : Flat (.slice b m d)) (h : a = none ∨ a ≠ b) : ∀ g, (Value.slice a n c).ownBlock = some g → (Value.slice b m d).ownBlock ≠ some g := by
  intro g h1 h2
  obtain ⟨_, _, e | ⟨g1, e⟩⟩ := ha
  · simp only [Value.slice.injEq] at e
    obtain ⟨rfl, _⟩ := e
    cases h1
  · obtain ⟨_, _, f | ⟨g2, f⟩⟩ := hb
    · simp only [Value.slice.injEq] at f
      obtain ⟨rfl, _⟩ := f
      cases h2
    · simp only [Value.slice.injEq] at e f
      obtain ⟨rfl, _⟩ := e
      obtain ⟨rfl, _⟩ := f
      simp only [Value.ownBlock, Option.some.injEq] at h1 h2
      subst h1 h2
      rcases h with h | h
      · cases h
      · exact h rfl
theorem HLV.flat {w : World} {v : Value} {l : List Hdr} (h : HLV w v l) : Flat v := by
  rcases h with ⟨rfl, _⟩ | ⟨g, c, rfl, _⟩
  · exact ⟨_, _, .inl rfl⟩
  · exact ⟨_, _, .inr ⟨g, rfl⟩⟩
theorem BLV.flat {w : World} {v : Value} {l : List UInt8} (h : BLV w v l) : Flat v := by
  rcases h with ⟨rfl, _⟩ | ⟨g, c, rfl, _⟩
  · exact ⟨_, _, .inl rfl⟩
  · exact ⟨_, _, .inr ⟨g, rfl⟩⟩
theorem TLV.flat {w : World} {v : Value} {l : List ByteArray} (h : TLV w v l) : Flat v := by
  rcases h with ⟨rfl, _⟩ | ⟨g, c, rfl, _⟩
  · exact ⟨_, _, .inl rfl⟩
  · exact ⟨_, _, .inr ⟨g, rfl⟩⟩
theorem EntRow.lv {w : World} {base : Nat} {x : Ent} {r : EntR} (h : EntRow w base x r) : EntLV w base x r := by
  obtain ⟨h1, g1⟩ := RowH.lv h.h
  obtain ⟨h2, g2⟩ := RowB.lv h.b
  obtain ⟨h3, g3⟩ := RowT.lv h.t
  have i := h.in
  exact ⟨h1, h2, h3, g1, g2, g3, flat_ne h1.flat h2.flat h.n1, flat_ne h1.flat h3.flat h.n2, flat_ne h2.flat h3.flat h.n3, i.hc, i.bc, i.tc⟩
theorem EntLV.below {w w' : World} {base : Nat} {x : Ent} {r : EntR} (h : EntLV w base x r) (hb : Below w.heap.size w w') : EntLV w' base x r :=
  ⟨h.h.below hb, h.b.below hb, h.t.below hb, h.gh, h.gb, h.gt, h.n1, h.n2, h.n3, h.hc, h.bc, h.tc⟩
theorem EntLV.above {w w' : World} {base hi : Nat} {x : Ent} {r : EntR} (h : EntLV w base x r) (k : Above hi w w') (hh : hi ≤ base) : EntLV w' base x r := by
  refine ⟨?_, ?_, ?_, h.gh, h.gb, h.gt, h.n1, h.n2, h.n3, h.hc, h.bc, h.tc⟩
  · have g0 := h.gh
    rcases h.h with h | ⟨g, c, e, hg, hi, hf⟩
    · exact .inl h
    · have hge : base ≤ g := g0 g (by rw [e]; rfl)
      exact .inr ⟨g, c, e, Nat.lt_of_lt_of_le hg k.size, fun i r hr => by rw [k.cell g _ (by omega) hg, k.cell g _ (by omega) hg]; exact hi i r hr, fun o => by rw [k.frozen g o (by omega) hg, hf]⟩
  · have g0 := h.gb
    rcases h.b with h | ⟨g, c, e, hg, hi, hf⟩
    · exact .inl h
    · have hge : base ≤ g := g0 g (by rw [e]; rfl)
      exact .inr ⟨g, c, e, Nat.lt_of_lt_of_le hg k.size, fun i r hr => by rw [k.cell g _ (by omega) hg]; exact hi i r hr, fun o => by rw [k.frozen g o (by omega) hg, hf]⟩
  · have g0 := h.gt
    rcases h.t with h | ⟨g, c, e, hg, hi, hf⟩
    · exact .inl h
    · have hge : base ≤ g := g0 g (by rw [e]; rfl)
      exact .inr ⟨g, c, e, Nat.lt_of_lt_of_le hg k.size, fun i r hr => by rw [k.cell g _ (by omega) hg]; exact hi i r hr, fun o => by rw [k.frozen g o (by omega) hg, hf]⟩
theorem EntLV.in {w : World} {base : Nat} {x : Ent} {r : EntR} (h : EntLV w base x r) : EntIn w x r := by
  refine ⟨?_, ?_, ?_, h.hc, h.bc, h.tc⟩
  · rcases h.h with ⟨_, e⟩ | ⟨g, c, e, hg, hi, hf⟩
    · exact .inl e
    · simp only [Value.slice.injEq] at e
      exact .inr ⟨g, 0, e.1, hi⟩
  · rcases h.b with ⟨_, e⟩ | ⟨g, c, e, hg, hi, hf⟩
    · exact .inl e
    · simp only [Value.slice.injEq] at e
      exact .inr ⟨g, 0, e.1, hi⟩
  · rcases h.t with ⟨_, e⟩ | ⟨g, c, e, hg, hi, hf⟩
    · exact .inl e
    · simp only [Value.slice.injEq] at e
      exact .inr ⟨g, 0, e.1, hi⟩
/-- What an entry's lists hold once they were marked. -/
structure EntHeld (w : World) (x : Ent) (r : EntR) : Prop where
  h : HLV w (.slice r.ha x.hs.length r.hc) (mkHL 1 x.hs.length)
  b : MarkB w (.slice r.ba x.bl.length r.bc) (1 + 2 * x.hs.length) x.bl.length
  t : TLV w (.slice r.ta x.ts.length r.tc) (mkTL (1 + 2 * x.hs.length + x.bl.length) x.ts.length)
theorem EntHeld.below {w w' : World} {x : Ent} {r : EntR} (h : EntHeld w x r) (hb : Below w.heap.size w w') : EntHeld w' x r := ⟨h.h.below hb, h.b.keep hb, h.t.below hb⟩
theorem HAV.above {v : Value} {hi : Nat} {w w' : World} (h : HAV v w w') (hv : ∀ g, v.ownBlock = some g → g < hi) : Above hi w w' :=
  ⟨h.size, fun b o h1 h2 => h.cell b o h2 (fun e => by have := hv b e; omega), fun b o h1 h2 => h.frozen b o h2 (fun e => by have := hv b e; omega)⟩
theorem BLV.block_lt {w : World} {v : Value} {l : List UInt8} (h : BLV w v l) : ∀ b, v.ownBlock = some b → b < w.heap.size := by
  rcases h with ⟨rfl, _⟩ | ⟨g, c, rfl, hg, _⟩
  · intro b hb; cases hb
  · intro b hb; simp only [Value.ownBlock, Option.some.injEq] at hb; omega
structure EntLt (hi : Nat) (x : Ent) (r : EntR) : Prop where
  h : ∀ g, (Value.slice r.ha x.hs.length r.hc).ownBlock = some g → g < hi
  b : ∀ g, (Value.slice r.ba x.bl.length r.bc).ownBlock = some g → g < hi
  t : ∀ g, (Value.slice r.ta x.ts.length r.tc).ownBlock = some g → g < hi
theorem EntLV.lts {w : World} {base : Nat} {x : Ent} {r : EntR} (h : EntLV w base x r) : EntLt w.heap.size x r := ⟨HLV.block_lt h.h, h.b.block_lt, h.t.block_lt⟩
theorem markLists (W : World) (base hi : Nat) (x : Ent) (r : EntR) (f1 : x.hs.length ≤ 1048576) (f2 : x.bl.length ≤ 1048576) (f3 : x.ts.length ≤ 1048576) (hw : base ≤ W.heap.size) (h : EntLV W base x r) (h0 : EntLt hi x r) :
    Calls Tryz.prog 70 #[.slice r.ha x.hs.length r.hc, .int .i64 1] W fun e w1 => e = .returned (.int .i64 ((1 + 2 * x.hs.length : Nat) : Int)) ∧ (Below base W w1 ∧ Above hi W w1) ∧ 
    Calls Tryz.prog 71 #[.slice r.ba x.bl.length r.bc, .int .i64 ((1 + 2 * x.hs.length : Nat) : Int)] w1 fun e w2 => e = .returned (.int .i64 ((1 + 2 * x.hs.length + x.bl.length : Nat) : Int)) ∧ (Below base w1 w2 ∧ Above hi w1 w2) ∧ 
    Calls Tryz.prog 72 #[.slice r.ta x.ts.length r.tc, .int .i64 ((1 + 2 * x.hs.length + x.bl.length : Nat) : Int)] w2 fun e w3 => e = .returned (.int .i64 ((1 + 2 * x.hs.length + x.bl.length + x.ts.length : Nat) : Int)) ∧ (Below base w2 w3 ∧ Above hi w2 w3) ∧ EntHeld w3 x r := by
  have ne : ∀ {u v : Value}, (∀ g, u.ownBlock = some g → v.ownBlock ≠ some g) → ∀ g, v.ownBlock = some g → u.ownBlock ≠ some g := fun hh g h1 h2 => hh g h2 h1
  refine (markHeaderS_lvk W _ x.hs 1 (by omega) (by omega) f1 h.h base h.gh (by omega)).mono ?_
  rintro e w1 ⟨rfl, a1, v1, b1⟩
  refine ⟨rfl, ⟨b1, v1.above h0.h⟩, ?_⟩
  have s1 := b1.size
  refine (markByteS_lvk w1 _ x.bl _ (by omega) f2 (h.b.av v1 (ne h.n1)) base h.gb (by omega)).mono ?_
  rintro e w2 ⟨rfl, a2, v2, b2⟩
  refine ⟨rfl, ⟨b2, v2.above h0.b⟩, ?_⟩
  have s2 := b2.size
  refine (markStringS_lvk w2 _ x.ts _ (by omega) (by omega) f3 ((h.t.av v1 (ne h.n2)).av v2 (ne h.n3)) base h.gt (by omega)).mono ?_
  rintro e w3 ⟨rfl, a3, v3, b3⟩
  exact ⟨rfl, ⟨b3, v3.above h0.t⟩, ⟨(a1.av v2 h.n1).av v3 h.n2, a2.hav v3 h.n3, a3⟩⟩
theorem heldLists (w : World) (x : Ent) (r : EntR) (f1 : x.hs.length ≤ 1048576) (f2 : x.bl.length ≤ 1048576) (f3 : x.ts.length ≤ 1048576) (h : EntHeld w x r) :
    Calls Tryz.prog 129 #[.slice r.ha x.hs.length r.hc, .int .i64 1] w fun e w1 => e = .returned (.int .i64 ((1 + 2 * x.hs.length : Nat) : Int)) ∧ Below w.heap.size w w1 ∧
    Calls Tryz.prog 143 #[.slice r.ba x.bl.length r.bc, .int .i64 ((1 + 2 * x.hs.length : Nat) : Int)] w1 fun e w2 => e = .returned (.int .i64 ((1 + 2 * x.hs.length + x.bl.length : Nat) : Int)) ∧ Below w1.heap.size w1 w2 ∧
    Calls Tryz.prog 144 #[.slice r.ta x.ts.length r.tc, .int .i64 ((1 + 2 * x.hs.length + x.bl.length : Nat) : Int)] w2 fun e w3 => e = .returned (.int .i64 ((1 + 2 * x.hs.length + x.bl.length + x.ts.length : Nat) : Int)) ∧ Below w2.heap.size w2 w3 := by
  refine (heldHeaderS_lvk w _ x.hs.length 1 (by omega) (by omega) f1 h.h).mono ?_
  rintro e w1 ⟨rfl, b1⟩
  refine ⟨rfl, b1, ?_⟩
  have h1 := h.below b1
  refine (heldByteS_lvk w1 _ _ _ _ (by omega) f2 h1.b).mono ?_
  rintro e w2 ⟨rfl, b2⟩
  refine ⟨rfl, b2, ?_⟩
  have h2 := h1.below b2
  exact heldStringS_lvk w2 _ _ _ (by omega) (by omega) f3 h2.t
end Go.Proofs.YtolkgnnjocmkdaaGreatDoor
/-
  Rows of head lines, of bytes and of texts, as facts that hang on a stretch of blocks.
-/
namespace Go.Proofs.YtolkgnnjocmkdaaGreatDoor
open Go.ChangeShapes Go.WideShapes Go.ChangeAt Go.RowKit Go.Sort
def HL (v : Value) (l : List Hdr) (lo hi : Nat) (X : World) : Prop := HLV X v l ∧ ∀ b, v.ownBlock = some b → lo ≤ b ∧ b < hi
def BL (v : Value) (l : List UInt8) (lo hi : Nat) (X : World) : Prop := BLV X v l ∧ ∀ b, v.ownBlock = some b → lo ≤ b ∧ b < hi
def TL (v : Value) (l : List ByteArray) (lo hi : Nat) (X : World) : Prop := TLV X v l ∧ ∀ b, v.ownBlock = some b → lo ≤ b ∧ b < hi
def MB (v : Value) (k n lo hi : Nat) (X : World) : Prop := MarkB X v k n ∧ ∀ b, v.ownBlock = some b → lo ≤ b ∧ b < hi
theorem HL.dep (v : Value) (l : List Hdr) (lo hi : Nat) : Dep lo hi (HL v l lo hi) := fun X X' h1 h2 hc k => by
  refine ⟨?_, k.2⟩
  rcases k.1 with e | ⟨g, c, rfl, hg, hi', hf⟩
  · exact .inl e
  · obtain ⟨b1, b2⟩ := k.2 g rfl
    exact .inr ⟨g, c, rfl, Nat.lt_of_lt_of_le hg h2, fun i r hr => by rw [(hc g _ b1 b2).1, (hc g _ b1 b2).1]; exact hi' i r hr, fun o => by rw [(hc g o b1 b2).2, hf]⟩
theorem BL.dep (v : Value) (l : List UInt8) (lo hi : Nat) : Dep lo hi (BL v l lo hi) := fun X X' h1 h2 hc k => by
  refine ⟨?_, k.2⟩
  rcases k.1 with e | ⟨g, c, rfl, hg, hi', hf⟩
  · exact .inl e
  · obtain ⟨b1, b2⟩ := k.2 g rfl
    exact .inr ⟨g, c, rfl, Nat.lt_of_lt_of_le hg h2, fun i r hr => by rw [(hc g _ b1 b2).1]; exact hi' i r hr, fun o => by rw [(hc g o b1 b2).2, hf]⟩
theorem TL.dep (v : Value) (l : List ByteArray) (lo hi : Nat) : Dep lo hi (TL v l lo hi) := fun X X' h1 h2 hc k => by
  refine ⟨?_, k.2⟩
  rcases k.1 with e | ⟨g, c, rfl, hg, hi', hf⟩
  · exact .inl e
  · obtain ⟨b1, b2⟩ := k.2 g rfl
    exact .inr ⟨g, c, rfl, Nat.lt_of_lt_of_le hg h2, fun i r hr => by rw [(hc g _ b1 b2).1]; exact hi' i r hr, fun o => by rw [(hc g o b1 b2).2, hf]⟩
theorem MB.dep (v : Value) (k n lo hi : Nat) : Dep lo hi (MB v k n lo hi) := fun X X' h1 h2 hc q => by
  refine ⟨?_, q.2⟩
  rcases q.1 with e | ⟨g, c, rfl, hg, hi'⟩
  · exact .inl e
  · obtain ⟨b1, b2⟩ := q.2 g rfl
    exact .inr ⟨g, c, rfl, Nat.lt_of_lt_of_le hg h2, fun i hi2 => by rw [(hc g _ b1 b2).1]; exact hi' i hi2⟩
theorem Dep.and {lo hi : Nat} {A B : World → Prop} (a : Dep lo hi A) (b : Dep lo hi B) : Dep lo hi (fun X => A X ∧ B X) := fun X X' h1 h2 hc k => ⟨a X X' h1 h2 hc k.1, b X X' h1 h2 hc k.2⟩
theorem Dep.const {lo hi : Nat} (p : Prop) : Dep lo hi (fun _ => p) := fun _ _ _ _ _ k => k
theorem HL.wide {v : Value} {l : List Hdr} {lo hi lo' hi' : Nat} {X : World} (k : HL v l lo hi X) (h1 : lo' ≤ lo) (h2 : hi ≤ hi') : HL v l lo' hi' X := ⟨k.1, fun b hb => by have := k.2 b hb; omega⟩
theorem BL.wide {v : Value} {l : List UInt8} {lo hi lo' hi' : Nat} {X : World} (k : BL v l lo hi X) (h1 : lo' ≤ lo) (h2 : hi ≤ hi') : BL v l lo' hi' X := ⟨k.1, fun b hb => by have := k.2 b hb; omega⟩
theorem TL.wide {v : Value} {l : List ByteArray} {lo hi lo' hi' : Nat} {X : World} (k : TL v l lo hi X) (h1 : lo' ≤ lo) (h2 : hi ≤ hi') : TL v l lo' hi' X := ⟨k.1, fun b hb => by have := k.2 b hb; omega⟩
theorem RowH.at {w : World} {base : Nat} {v : Value} {l : List Hdr} (h : RowH w base v l) : At base w.heap.size (HL v l) w :=
  ⟨Nat.le_refl _, HL.dep _ _ _ _, h.lv.1, fun b hb => ⟨h.lv.2 b hb, (World.ownsRow.lt h b hb).2⟩⟩
theorem RowB.at {w : World} {base : Nat} {v : Value} {l : List UInt8} (h : RowB w base v l) : At base w.heap.size (BL v l) w :=
  ⟨Nat.le_refl _, BL.dep _ _ _ _, h.lv.1, fun b hb => ⟨h.lv.2 b hb, (World.ownsRow.lt h b hb).2⟩⟩
theorem RowT.at {w : World} {base : Nat} {v : Value} {l : List ByteArray} (h : RowT w base v l) : At base w.heap.size (TL v l) w :=
  ⟨Nat.le_refl _, TL.dep _ _ _ _, h.lv.1, fun b hb => ⟨h.lv.2 b hb, (World.ownsRow.lt h b hb).2⟩⟩
theorem HL.in {v : Value} {l : List Hdr} {lo hi : Nat} {X : World} {a : Option Addr} {n c : Nat} (k : HL v l lo hi X) (e : v = .slice a n c) : n = l.length ∧ HdsIn X a l := by
  subst e
  rcases k.1 with ⟨e, rfl⟩ | ⟨g, c', e, _, h, _⟩
  · simp only [Value.slice.injEq] at e
    obtain ⟨rfl, rfl, rfl⟩ := e
    exact ⟨rfl, .inl rfl⟩
  · simp only [Value.slice.injEq] at e
    obtain ⟨rfl, rfl, rfl⟩ := e
    exact ⟨rfl, .inr ⟨g, 0, rfl, h⟩⟩
theorem BL.in {v : Value} {l : List UInt8} {lo hi : Nat} {X : World} {a : Option Addr} {n c : Nat} (k : BL v l lo hi X) (e : v = .slice a n c) : n = l.length ∧ BIn X a l := by
  subst e
  rcases k.1 with ⟨e, rfl⟩ | ⟨g, c', e, _, h, _⟩
  · simp only [Value.slice.injEq] at e
    obtain ⟨rfl, rfl, rfl⟩ := e
    exact ⟨rfl, .inl rfl⟩
  · simp only [Value.slice.injEq] at e
    obtain ⟨rfl, rfl, rfl⟩ := e
    exact ⟨rfl, .inr ⟨g, 0, rfl, h⟩⟩
theorem TL.in {v : Value} {l : List ByteArray} {lo hi : Nat} {X : World} {a : Option Addr} {n c : Nat} (k : TL v l lo hi X) (e : v = .slice a n c) : n = l.length ∧ TIn X a l := by
  subst e
  rcases k.1 with ⟨e, rfl⟩ | ⟨g, c', e, _, h, _⟩
  · simp only [Value.slice.injEq] at e
    obtain ⟨rfl, rfl, rfl⟩ := e
    exact ⟨rfl, .inl rfl⟩
  · simp only [Value.slice.injEq] at e
    obtain ⟨rfl, rfl, rfl⟩ := e
    exact ⟨rfl, .inr ⟨g, 0, rfl, h⟩⟩
/-- No block is both's. -/
def Ap (v u : Value) : Prop := ∀ b, v.ownBlock = some b → u.ownBlock ≠ some b
theorem HAV.wi {v : Value} {X X' : World} (h : HAV v X X') {lo hi : Nat} (hv : ∀ b, v.ownBlock = some b → lo ≤ b ∧ b < hi) : Wi lo hi X X' :=
  ⟨h.size, fun b o hb hd => h.cell b o hb (fun e => by have := hv b e; omega), fun b o hb hd => h.frozen b o hb (fun e => by have := hv b e; omega)⟩
/-! ### marking -/
theorem markH_at {X : World} {lo hi k : Nat} {v : Value} {l : List Hdr} (hk0 : 1 ≤ k) (hk : k ≤ 100000000000000) (hl : l.length ≤ 1048576) (c : At lo hi (HL v l) X) (base : Nat) (hb : base ≤ lo) (hbX : base ≤ X.heap.size) :
    Calls Tryz.prog 70 #[v, .int .i64 (k : Int)] X fun e w' => e = .returned (.int .i64 ((k + 2 * l.length : Nat) : Int)) ∧ (At lo hi (HL v (mkHL k l.length)) w' ∧ HAV v X w') ∧ Below base X w' :=
  (markHeaderS_lvk X v l k hk0 hk hl c.val.1 base (fun b hb' => Nat.le_trans hb (c.val.2 b hb').1) hbX).mono fun _ _ ⟨h1, h2, h3, h4⟩ => ⟨h1, ⟨⟨Nat.le_trans c.le h3.size, HL.dep _ _ _ _, h2, c.val.2⟩, h3⟩, h4⟩
theorem markB_at {X : World} {lo hi k : Nat} {v : Value} {l : List UInt8} (hk : k ≤ 100000000000000) (hl : l.length ≤ 1048576) (c : At lo hi (BL v l) X) (base : Nat) (hb : base ≤ lo) (hbX : base ≤ X.heap.size) :
    Calls Tryz.prog 71 #[v, .int .i64 (k : Int)] X fun e w' => e = .returned (.int .i64 ((k + l.length : Nat) : Int)) ∧ (At lo hi (MB v k l.length) w' ∧ HAV v X w') ∧ Below base X w' :=
  (markByteS_lvk X v l k hk hl c.val.1 base (fun b hb' => Nat.le_trans hb (c.val.2 b hb').1) hbX).mono fun _ _ ⟨h1, h2, h3, h4⟩ => ⟨h1, ⟨⟨Nat.le_trans c.le h3.size, MB.dep _ _ _ _ _, h2, c.val.2⟩, h3⟩, h4⟩
theorem markT_at {X : World} {lo hi k : Nat} {v : Value} {l : List ByteArray} (hk0 : 1 ≤ k) (hk : k ≤ 100000000000000) (hl : l.length ≤ 1048576) (c : At lo hi (TL v l) X) (base : Nat) (hb : base ≤ lo) (hbX : base ≤ X.heap.size) :
    Calls Tryz.prog 72 #[v, .int .i64 (k : Int)] X fun e w' => e = .returned (.int .i64 ((k + l.length : Nat) : Int)) ∧ (At lo hi (TL v (mkTL k l.length)) w' ∧ HAV v X w') ∧ Below base X w' :=
  (markStringS_lvk X v l k hk0 hk hl c.val.1 base (fun b hb' => Nat.le_trans hb (c.val.2 b hb').1) hbX).mono fun _ _ ⟨h1, h2, h3, h4⟩ => ⟨h1, ⟨⟨Nat.le_trans c.le h3.size, TL.dep _ _ _ _, h2, c.val.2⟩, h3⟩, h4⟩
end Go.Proofs.YtolkgnnjocmkdaaGreatDoor
/-
  What a marking leaves as it was; requests marked.
-/
namespace Go.Proofs.YtolkgnnjocmkdaaGreatDoor
open Go.ChangeShapes Go.WideShapes Go.ChangeAt Go.RowKit
/-- All that was there, but for the memory of v, is as it was. -/
structure OutV (v : Value) (W W' : World) : Prop where
  size : W.heap.size ≤ W'.heap.size
  cell : ∀ b o, b < W.heap.size → v.ownBlock ≠ some b → W'.cell? ⟨b, o, none⟩ = W.cell? ⟨b, o, none⟩
  frozen : ∀ b o, b < W.heap.size → v.ownBlock ≠ some b → W'.frozen? ⟨b, o, none⟩ = W.frozen? ⟨b, o, none⟩
theorem Four.out {v : Value} {W W' : World} {B : Nat} {v0 v1 v2 v3 : Value} (h : Four W B v0 v1 v2 v3) (k : OutV v W W') (hne : v.ownBlock ≠ some B) : Four W' B v0 v1 v2 v3 :=
  ⟨by rw [k.cell B 0 h.lt hne]; exact h.c0, by rw [k.cell B 1 h.lt hne]; exact h.c1, by rw [k.cell B 2 h.lt hne]; exact h.c2, by rw [k.cell B 3 h.lt hne]; exact h.c3, fun o => by rw [k.frozen B o h.lt hne]; exact h.fr o, Nat.lt_of_lt_of_le h.lt k.size⟩
theorem Two.out {v : Value} {W W' : World} {B : Nat} {v0 v1 : Value} (h : Two W B v0 v1) (k : OutV v W W') (hne : v.ownBlock ≠ some B) : Two W' B v0 v1 :=
  ⟨by rw [k.cell B 0 h.lt hne]; exact h.c0, by rw [k.cell B 1 h.lt hne]; exact h.c1, fun o => by rw [k.frozen B o h.lt hne]; exact h.fr o, Nat.lt_of_lt_of_le h.lt k.size⟩
theorem BOwn.out {v u : Value} {W W' : World} {base : Nat} {l : List UInt8} (h : BOwn W base u l) (k : OutV v W W') (hne : ∀ b, u.ownBlock = some b → v.ownBlock ≠ some b) : BOwn W' base u l := by
  rcases h with h | ⟨g, c, rfl, hg, hm⟩
  · exact .inl h
  · have hn := hne g rfl
    exact .inr ⟨g, c, rfl, hg, fun i x hx => by rw [k.cell g _ hm.lt hn]; exact hm.at0 i x hx, fun o ho => by rw [k.frozen g o hm.lt hn]; exact hm.free o ho, Nat.lt_of_lt_of_le hm.lt k.size⟩
theorem QMine.out {v : Value} {W W' : World} {B : Nat} {l : List Hdr} (h : QMine W B l) (k : OutV v W W') (hne : v.ownBlock ≠ some B) : QMine W' B l :=
  ⟨fun i r hr => by rw [k.cell B _ h.lt hne, k.cell B _ h.lt hne]; exact h.at0 i r hr, fun o => by rw [k.frozen B o h.lt hne]; exact h.free o, Nat.lt_of_lt_of_le h.lt k.size⟩
set_option maxHeartbeats 2000000 in
theorem markRequest_any (W : World) (m h p : ByteArray) (B base : Nat) (l : List Hdr) (hl : l.length ≤ 1048576) (hq : QMine W B l) (hb : base ≤ B) (hbW : base ≤ W.heap.size) :
    ∃ q : Int, ¬ q < 0 ∧ Calls Tryz.prog 17 #[.agg #[.string m, .string h, .string p, .slice (some ⟨B, 0, none⟩) l.length l.length], .int .i64 1] W fun e w' => e = .returned (.int .i64 q) ∧ (OutV (.slice (some ⟨B, 0, none⟩) l.length l.length) W w' ∧ Below base W w') := by
  obtain ⟨V, hV⟩ : ∃ V, V = W.alloc (.cells #[.string m, .string h, .string p, .slice (some ⟨B, 0, none⟩) l.length l.length] 35) := ⟨_, rfl⟩
  have HV : Hid (V = W.alloc (.cells #[.string m, .string h, .string p, .slice (some ⟨B, 0, none⟩) l.length l.length] 35)) := hV
  have bV : Below W.heap.size W V := by rw [hV]; exact (Below.refl _ _).alloc (Nat.le_refl _) _
  have hq' := hq.keep bV
  obtain ⟨q, hq0, C⟩ := HMine.mark (base := base) (⟨hq'.at0, hq'.free, hq'.lt⟩ : HMine V B l) hl hb
  refine ⟨q, hq0, ?_⟩
  have HB : Hid (Below W.heap.size W V ∧ base ≤ W.heap.size) := ⟨bV, hbW⟩
  clear bV hV hq hq'
  generalize l.length = n at *
  go_enter Tryz.func17, Tryz.ntmps17
  go_wp2_with fail
  rw [← HV.out]
  refine C.mono ?_
  rintro e w1 ⟨rfl, hav, hb1⟩
  have HF : Hid (OutV (.slice (some ⟨B, 0, none⟩) n n) W w1 ∧ Below base W w1) := ⟨⟨Nat.le_trans HB.out.1.size hav.size, fun b o hb0 hne => by rw [hav.cell b o (Nat.lt_of_lt_of_le hb0 HB.out.1.size) hne, HB.out.1.cell (p := ⟨b, o, none⟩) hb0], fun b o hb0 hne => by rw [hav.frozen b o (Nat.lt_of_lt_of_le hb0 HB.out.1.size) hne, HB.out.1.frozen (p := ⟨b, o, none⟩) hb0]⟩, (HB.out.1.mono HB.out.2).trans hb1⟩
  clear hav hb1 C HV HB
  go_wp2_with fail
  go_ret
  exact ⟨rfl, HF.out⟩
end Go.Proofs.YtolkgnnjocmkdaaGreatDoor
/-
  Responses marked.
-/
namespace Go.Proofs.YtolkgnnjocmkdaaGreatDoor
open Go.ChangeShapes Go.WideShapes Go.ChangeAt Go.RowKit
theorem Three.out {v : Value} {W W' : World} {B : Nat} {v0 v1 v2 : Value} (h : Three W B v0 v1 v2) (k : OutV v W W') (hne : v.ownBlock ≠ some B) : Three W' B v0 v1 v2 :=
  ⟨by rw [k.cell B 0 h.lt hne]; exact h.c0, by rw [k.cell B 1 h.lt hne]; exact h.c1, by rw [k.cell B 2 h.lt hne]; exact h.c2, fun o => by rw [k.frozen B o h.lt hne]; exact h.fr o, Nat.lt_of_lt_of_le h.lt k.size⟩
theorem BMine.out {v : Value} {W W' : World} {B : Nat} {l : List UInt8} (h : BMine W B l) (k : OutV v W W') (hne : v.ownBlock ≠ some B) : BMine W' B l :=
  ⟨fun i r hr => by rw [k.cell B _ h.lt hne]; exact h.at0 i r hr, fun o ho => by rw [k.frozen B o h.lt hne]; exact h.free o ho, Nat.lt_of_lt_of_le h.lt k.size⟩
set_option maxHeartbeats 2000000 in
theorem markResponse_any (W : World) (s : Int) (B D base : Nat) (l : List Hdr) (bl : List UInt8) (hl : l.length ≤ 1048576) (hbl : bl.length ≤ 1048576) (hq : QMine W B l) (hd : BMine W D bl) (hb : base ≤ B) (hbd : base ≤ D) (hne : B ≠ D) (hbW : base ≤ W.heap.size) :
    ∃ q : Int, ¬ q < 0 ∧ Calls Tryz.prog 30 #[.agg #[.int .i64 s, .slice (some ⟨B, 0, none⟩) l.length l.length, .slice (some ⟨D, 0, none⟩) bl.length bl.length], .int .i64 1] W fun e w' => e = .returned (.int .i64 q) ∧ (∃ w1, OutV (.slice (some ⟨B, 0, none⟩) l.length l.length) W w1 ∧ OutV (.slice (some ⟨D, 0, none⟩) bl.length bl.length) w1 w' ∧ Below base W w1 ∧ Below base w1 w') := by
  obtain ⟨V, hV⟩ : ∃ V, V = W.alloc (.cells #[.int .i64 s, .slice (some ⟨B, 0, none⟩) l.length l.length, .slice (some ⟨D, 0, none⟩) bl.length bl.length] 61) := ⟨_, rfl⟩
  have HV : Hid (V = W.alloc (.cells #[.int .i64 s, .slice (some ⟨B, 0, none⟩) l.length l.length, .slice (some ⟨D, 0, none⟩) bl.length bl.length] 61)) := hV
  have bV : Below W.heap.size W V := by rw [hV]; exact (Below.refl _ _).alloc (Nat.le_refl _) _
  have tV : Three V W.heap.size (.int .i64 s) (.slice (some ⟨B, 0, none⟩) l.length l.length) (.slice (some ⟨D, 0, none⟩) bl.length bl.length) := by rw [hV]; exact Three.new _ _ _ _ _
  have hq' := hq.keep bV
  have C : Calls Tryz.prog 70 #[.slice (some ⟨B, 0, none⟩) l.length l.length, .int .i64 1] V fun e w' => e = .returned (.int .i64 ((1 + 2 * l.length : Nat) : Int)) ∧ HAV (.slice (some ⟨B, 0, none⟩) l.length l.length) V w' ∧ Below base V w' :=
    (markHeaderS_lv V (.slice (some ⟨B, 0, none⟩) l.length l.length) l hl (.inr ⟨B, _, rfl, hq'.lt, hq'.at0, hq'.free⟩) base (fun q hq => by simp only [Value.ownBlock, Option.some.injEq] at hq; omega) (by have := hq'.lt; omega)).mono fun _ _ ⟨h1, _, h3, h4⟩ => ⟨h1, h3, h4⟩
  refine ⟨((1 + 2 * l.length + bl.length : Nat) : Int), by omega, ?_⟩
  have hB := hq.lt
  have hD := hd.lt
  have K : Hid (Below W.heap.size W V ∧ base ≤ W.heap.size ∧ Three V W.heap.size (.int .i64 s) (.slice (some ⟨B, 0, none⟩) l.length l.length) (.slice (some ⟨D, 0, none⟩) bl.length bl.length) ∧ BMine V D bl) := ⟨bV, hbW, tV, hd.keep bV⟩
  have HX : Hid (∀ X, BMine X D bl → Calls Tryz.prog 71 #[.slice (some ⟨D, 0, none⟩) bl.length bl.length, .int .i64 ((1 + 2 * l.length : Nat) : Int)] X fun e w' => e = .returned (.int .i64 ((1 + 2 * l.length + bl.length : Nat) : Int)) ∧ (MarkB w' (.slice (some ⟨D, 0, none⟩) bl.length bl.length) (1 + 2 * l.length) bl.length ∧ BAV (.slice (some ⟨D, 0, none⟩) bl.length bl.length) X w' ∧ Below base X w')) := fun X hm => markByteS_row X D bl.length bl.length (1 + 2 * l.length) base hbl (by omega) hbd hm.lt (fun j hj => by
      have := hm.at0 j bl[j] (List.getElem?_eq_getElem hj)
      rw [Nat.zero_add] at this
      exact ⟨⟨_, this⟩, hm.free j hj⟩)
  clear bV hV hq hq' tV hd
  generalize ((1 + 2 * l.length : Nat) : Int) = q1 at *
  obtain ⟨q2, hq2⟩ : ∃ q2 : Int, q2 = ((1 + 2 * l.length + bl.length : Nat) : Int) := ⟨_, rfl⟩
  have HQ2 : Hid (q2 = ((1 + 2 * l.length + bl.length : Nat) : Int)) := hq2
  rw [← hq2] at HX
  clear hq2
  generalize l.length = n at *
  go_enter Tryz.func30, Tryz.ntmps30
  go_wp2_with fail
  rw [← HV.out]
  refine C.mono ?_
  rintro e w1 ⟨rfl, hav, hb1⟩
  have o1 : OutV (.slice (some ⟨B, 0, none⟩) n n) V w1 := ⟨hav.size, hav.cell, hav.frozen⟩
  have t1 := K.out.2.2.1.out o1 (fun e => by simp only [Value.ownBlock, Option.some.injEq] at e; omega)
  have m1 := K.out.2.2.2.out o1 (fun e => by simp only [Value.ownBlock, Option.some.injEq] at e; omega)
  have K1 : Hid (OutV (.slice (some ⟨B, 0, none⟩) n n) W w1 ∧ Below base W w1) := ⟨⟨Nat.le_trans K.out.1.size hav.size, fun b o hb0 hne => by rw [hav.cell b o (Nat.lt_of_lt_of_le hb0 K.out.1.size) hne, K.out.1.cell (p := ⟨b, o, none⟩) hb0], fun b o hb0 hne => by rw [hav.frozen b o (Nat.lt_of_lt_of_le hb0 K.out.1.size) hne, K.out.1.frozen (p := ⟨b, o, none⟩) hb0]⟩, (K.out.1.mono K.out.2.1).trans hb1⟩
  have c2 := t1.c2
  have C2 := HX.out w1 m1
  clear hav hb1 C HV K o1 t1 m1 HX
  generalize hbn : bl.length = bn at *
  have HBN : Hid (bl.length = bn) := hbn
  clear hbn
  go_wp2_with fail
  refine C2.mono ?_
  rintro e w2 ⟨rfl, _, hav2, hb2⟩
  have HF : Hid (∃ w1, OutV (.slice (some ⟨B, 0, none⟩) n n) W w1 ∧ OutV (.slice (some ⟨D, 0, none⟩) bn bn) w1 w2 ∧ Below base W w1 ∧ Below base w1 w2) := ⟨w1, K1.out.1, ⟨by rw [hav2.size]; exact Nat.le_refl _, hav2.cell, fun b o _ _ => hav2.frozen b o⟩, K1.out.2, hb2⟩
  clear hav2 hb2 C2 K1 c2
  go_wp2_with fail
  go_ret
  exact ⟨ret_int (by rw [HQ2.out, HBN.out]), by rw [HBN.out]; exact HF.out⟩
end Go.Proofs.YtolkgnnjocmkdaaGreatDoor
/-
  Facts that hang on stretches of blocks, one behind the other.
-/
namespace Go.Proofs.YtolkgnnjocmkdaaGreatDoor
open Go.ChangeShapes Go.WideShapes Go.ChangeAt Go.RowKit
/-- What hangs on a stretch within. -/
def Wide (A : Nat → Nat → World → Prop) (lo hi : Nat) (X : World) : Prop := ∃ l h, lo ≤ l ∧ l ≤ h ∧ h ≤ hi ∧ At l h A X
/-- Both, one behind the other. -/
def Bef (A B : Nat → Nat → World → Prop) (lo hi : Nat) (X : World) : Prop := ∃ l h m n, lo ≤ l ∧ l ≤ h ∧ h ≤ m ∧ m ≤ n ∧ n ≤ hi ∧ At l h A X ∧ At m n B X
theorem At.mv {l h lo hi : Nat} {A : Nat → Nat → World → Prop} {X X' : World} (k : At l h A X) (h0 : lo ≤ l) (h1 : h ≤ hi) (s : X.heap.size ≤ X'.heap.size) (hc : ∀ b o, lo ≤ b → b < hi → X'.cell? ⟨b, o, none⟩ = X.cell? ⟨b, o, none⟩ ∧ X'.frozen? ⟨b, o, none⟩ = X.frozen? ⟨b, o, none⟩) : At l h A X' :=
  ⟨Nat.le_trans k.le s, k.dep, k.dep X X' k.le s (fun b o h2 h3 => hc b o (Nat.le_trans h0 h2) (Nat.lt_of_lt_of_le h3 h1)) k.val⟩
theorem Wide.dep (A : Nat → Nat → World → Prop) (lo hi : Nat) : Dep lo hi (Wide A lo hi) := fun X X' _ h2 hc k => by
  obtain ⟨l, h, a, b, c, d⟩ := k
  exact ⟨l, h, a, b, c, d.mv a c h2 hc⟩
theorem Bef.dep (A B : Nat → Nat → World → Prop) (lo hi : Nat) : Dep lo hi (Bef A B lo hi) := fun X X' _ h2 hc k => by
  obtain ⟨l, h, m, n, a, b, c, d, e, f, g⟩ := k
  exact ⟨l, h, m, n, a, b, c, d, e, f.mv a (by omega) h2 hc, g.mv (by omega) e h2 hc⟩
theorem Wide.at {A : Nat → Nat → World → Prop} {l h : Nat} {X : World} (k : At l h A X) (hl : l ≤ h) : At l h (Wide A) X := ⟨k.le, Wide.dep _ _ _, l, h, Nat.le_refl _, hl, Nat.le_refl _, k⟩
theorem Bef.at {A B : Nat → Nat → World → Prop} {l h m n : Nat} {X : World} (k : At l h A X) (j : At m n B X) (hl : l ≤ h ∧ h ≤ m ∧ m ≤ n) : At l n (Bef A B) X := ⟨j.le, Bef.dep _ _ _ _, l, h, m, n, Nat.le_refl _, hl.1, hl.2.1, hl.2.2, Nat.le_refl _, k, j⟩
theorem At.wideW {A : Nat → Nat → World → Prop} {l h lo hi : Nat} {X : World} (k : At l h (Wide A) X) (h0 : lo ≤ l) (h1 : h ≤ hi) (h2 : hi ≤ X.heap.size) : At lo hi (Wide A) X := by
  obtain ⟨a, b, c, d, e, f⟩ := k.val
  exact ⟨h2, Wide.dep _ _ _, a, b, by omega, d, by omega, f⟩
theorem At.wideB {A B : Nat → Nat → World → Prop} {l h lo hi : Nat} {X : World} (k : At l h (Bef A B) X) (h0 : lo ≤ l) (h1 : h ≤ hi) (h2 : hi ≤ X.heap.size) : At lo hi (Bef A B) X := by
  obtain ⟨a, b, c, d, e, f, g, i, j, m, n⟩ := k.val
  exact ⟨h2, Bef.dep _ _ _ _, a, b, c, d, by omega, f, g, i, by omega, m, n⟩
end Go.Proofs.YtolkgnnjocmkdaaGreatDoor
/-
  Texts of one's own, as facts that hang on a stretch of blocks.
-/
namespace Go.Proofs.YtolkgnnjocmkdaaGreatDoor
open Go.ChangeShapes Go.WideShapes Go.ChangeAt Go.RowKit Go.Sort
def TM (B : Nat) (l : List ByteArray) (lo hi : Nat) (X : World) : Prop := TMine X B l ∧ lo ≤ B ∧ B < hi
theorem TM.dep (B : Nat) (l : List ByteArray) (lo hi : Nat) : Dep lo hi (TM B l lo hi) := fun X X' h1 h2 hc k =>
  ⟨⟨fun i r hr => by rw [(hc B _ k.2.1 k.2.2).1]; exact k.1.at0 i r hr, fun o ho => by rw [(hc B o k.2.1 k.2.2).2]; exact k.1.free o ho, Nat.lt_of_lt_of_le k.1.lt h2⟩, k.2⟩
theorem TMine.at {X : World} {B : Nat} {l : List ByteArray} (h : TMine X B l) : At B (B + 1) (TM B l) X := ⟨h.lt, TM.dep _ _ _ _, h, Nat.le_refl _, Nat.lt_succ_self _⟩
theorem TM.in {B lo hi : Nat} {l : List ByteArray} {X : World} (h : TM B l lo hi X) : TIn X (some ⟨B, 0, none⟩) l := h.1.in
end Go.Proofs.YtolkgnnjocmkdaaGreatDoor
/-
  Arguments as the laws hand them over: rows of their own, and their marks from any number on.
-/
namespace Go.Proofs.YtolkgnnjocmkdaaGreatDoor
open Go.ChangeShapes Go.WideShapes Go.ChangeAt Go.RowKit Go.Sort
def QM (B : Nat) (l : List Hdr) (lo hi : Nat) (X : World) : Prop := QMine X B l ∧ lo ≤ B ∧ B < hi
def BM (B : Nat) (l : List UInt8) (lo hi : Nat) (X : World) : Prop := BMine X B l ∧ lo ≤ B ∧ B < hi
theorem QM.dep (B : Nat) (l : List Hdr) (lo hi : Nat) : Dep lo hi (QM B l lo hi) := fun X X' h1 h2 hc k =>
  ⟨⟨fun i r hr => by rw [(hc B _ k.2.1 k.2.2).1, (hc B _ k.2.1 k.2.2).1]; exact k.1.at0 i r hr, fun o => by rw [(hc B o k.2.1 k.2.2).2]; exact k.1.free o, Nat.lt_of_lt_of_le k.1.lt h2⟩, k.2⟩
theorem BM.dep (B : Nat) (l : List UInt8) (lo hi : Nat) : Dep lo hi (BM B l lo hi) := fun X X' h1 h2 hc k =>
  ⟨⟨fun i r hr => by rw [(hc B _ k.2.1 k.2.2).1]; exact k.1.at0 i r hr, fun o ho => by rw [(hc B o k.2.1 k.2.2).2]; exact k.1.free o ho, Nat.lt_of_lt_of_le k.1.lt h2⟩, k.2⟩
theorem QMine.at {X : World} {B : Nat} {l : List Hdr} (h : QMine X B l) : At B (B + 1) (QM B l) X := ⟨h.lt, QM.dep _ _ _ _, h, Nat.le_refl _, Nat.lt_succ_self _⟩
theorem BMine.at {X : World} {B : Nat} {l : List UInt8} (h : BMine X B l) : At B (B + 1) (BM B l) X := ⟨h.lt, BM.dep _ _ _ _, h, Nat.le_refl _, Nat.lt_succ_self _⟩
theorem markQ_k {X : World} {B k : Nat} {l : List Hdr} (hk0 : 1 ≤ k) (hk : k ≤ 100000000000000) (hl : l.length ≤ 1048576) (c : At B (B + 1) (QM B l) X) (base : Nat) (hb : base ≤ B) :
    Calls Tryz.prog 70 #[.slice (some ⟨B, 0, none⟩) l.length l.length, .int .i64 (k : Int)] X fun e w' => e = .returned (.int .i64 ((k + 2 * l.length : Nat) : Int)) ∧ Wi B (B + 1) X w' ∧ Below base X w' :=
  (markHeaderS_lvk X _ l k hk0 hk hl (.inr ⟨B, _, rfl, c.val.1.lt, c.val.1.at0, c.val.1.free⟩) base (fun q hq => by simp only [Value.ownBlock, Option.some.injEq] at hq; omega) (Nat.le_of_lt (Nat.lt_of_le_of_lt hb c.val.1.lt))).mono fun _ _ ⟨h1, _, h3, h4⟩ => ⟨h1, h3.wi (fun q hq => by simp only [Value.ownBlock, Option.some.injEq] at hq; omega), h4⟩
theorem markBM_k {X : World} {B k : Nat} {l : List UInt8} (_hk0 : 1 ≤ k) (hk : k ≤ 100000000000000) (hl : l.length ≤ 1048576) (c : At B (B + 1) (BM B l) X) (base : Nat) (hb : base ≤ B) :
    Calls Tryz.prog 71 #[.slice (some ⟨B, 0, none⟩) l.length l.length, .int .i64 (k : Int)] X fun e w' => e = .returned (.int .i64 ((k + l.length : Nat) : Int)) ∧ Wi B (B + 1) X w' ∧ Below base X w' :=
  (markByteS_row X B l.length l.length k base hl hk hb c.val.1.lt (fun j hj => ⟨⟨_, by have := c.val.1.at0 j l[j] (List.getElem?_eq_getElem hj); rwa [Nat.zero_add] at this⟩, c.val.1.free j hj⟩)).mono fun _ _ ⟨h1, _, h3, h4⟩ =>
    ⟨h1, ⟨Nat.le_of_eq h3.size.symm, fun b o hb hd => h3.cell b o hb (fun e => by simp only [Value.ownBlock, Option.some.injEq] at e; omega), fun b o _ _ => h3.frozen b o⟩, h4⟩
theorem markTM_k {X : World} {B k : Nat} {l : List ByteArray} (hk0 : 1 ≤ k) (hk : k ≤ 100000000000000) (hl : l.length ≤ 1048576) (c : At B (B + 1) (TM B l) X) (base : Nat) (hb : base ≤ B) :
    Calls Tryz.prog 72 #[.slice (some ⟨B, 0, none⟩) l.length l.length, .int .i64 (k : Int)] X fun e w' => e = .returned (.int .i64 ((k + l.length : Nat) : Int)) ∧ Wi B (B + 1) X w' ∧ Below base X w' :=
  (markTS_row X B l.length l.length k hl hk0 hk c.val.1.lt (fun j hj => ⟨⟨_, by have := c.val.1.at0 j l[j] (List.getElem?_eq_getElem hj); rwa [Nat.zero_add] at this⟩, c.val.1.free j hj⟩)).mono fun _ _ ⟨h1, h3, h4⟩ =>
    ⟨h1, ⟨h3.size, fun b o hb hd => h3.cell b o hb (by omega), fun b o hb hd => h3.frozen b o hb (by omega)⟩, h4.mono hb⟩
set_option maxHeartbeats 4000000 in
theorem markResponse_k (X : World) (s : Int) (B1 : Nat) (l1 : List Hdr) (B2 : Nat) (l2 : List UInt8) (k lo hi base : Nat) (hk0 : 1 ≤ k) (hk : k ≤ 10000000000000) (f0 : l1.length ≤ 1048576) (c0 : At B1 (B1 + 1) (QM B1 l1) X) (f1 : l2.length ≤ 1048576) (c1 : At B2 (B2 + 1) (BM B2 l2) X) (o0 : B1 < B2) (hlo : lo ≤ B1) (hhi : B2 < hi) (hb : base ≤ lo) :
    Calls Tryz.prog 30 #[.agg #[.int .i64 s, .slice (some ⟨B1, 0, none⟩) l1.length l1.length, .slice (some ⟨B2, 0, none⟩) l2.length l2.length], .int .i64 (k : Int)] X fun e w' => e = .returned (.int .i64 ((k + 2 * l1.length + l2.length : Nat) : Int)) ∧ Wi lo hi X w' ∧ Below base X w' := by
  obtain ⟨V, hV⟩ : ∃ V, V = X.alloc (.cells #[.int .i64 s, .slice (some ⟨B1, 0, none⟩) l1.length l1.length, .slice (some ⟨B2, 0, none⟩) l2.length l2.length] 61) := ⟨_, rfl⟩
  have HV : Hid (V = X.alloc (.cells #[.int .i64 s, .slice (some ⟨B1, 0, none⟩) l1.length l1.length, .slice (some ⟨B2, 0, none⟩) l2.length l2.length] 61)) := hV
  have bV : Below X.heap.size X V := by rw [hV]; exact (Below.refl _ _).alloc (Nat.le_refl _) _
  have xX : Hid (Below X.heap.size X V) := bV
  have F : Hid (At X.heap.size (X.heap.size + 1) (Bx X.heap.size [.int .i64 s, .slice (some ⟨B1, 0, none⟩) l1.length l1.length, .slice (some ⟨B2, 0, none⟩) l2.length l2.length]) V) := by rw [hV]; exact Bx.new _ _ _
  have G0 : Hid (At B1 (B1 + 1) (QM B1 l1) V) := c0.keep bV
  have L0 : Hid (B1 < X.heap.size ∧ base ≤ B1 ∧ lo ≤ B1 ∧ B1 < hi) := ⟨c0.le, by omega, by omega, by omega⟩
  have G1 : Hid (At B2 (B2 + 1) (BM B2 l2) V) := c1.keep bV
  have L1 : Hid (B2 < X.heap.size ∧ base ≤ B2 ∧ lo ≤ B2 ∧ B2 < hi) := ⟨c1.le, by omega, by omega, by omega⟩
  have OO : Hid (B1 < B2) := o0
  have C0 : Hid (∀ Y, At B1 (B1 + 1) (QM B1 l1) Y → Calls Tryz.prog 70 #[.slice (some ⟨B1, 0, none⟩) l1.length l1.length, .int .i64 (k : Int)] Y fun e w' => e = .returned (.int .i64 ((k + 2 * l1.length : Nat) : Int)) ∧ Wi B1 (B1 + 1) Y w' ∧ Below base Y w') := fun Y c => markQ_k (by omega) (by omega) f0 c base (by omega)
  have C1 : Hid (∀ Y, At B2 (B2 + 1) (BM B2 l2) Y → Calls Tryz.prog 71 #[.slice (some ⟨B2, 0, none⟩) l2.length l2.length, .int .i64 ((k + 2 * l1.length : Nat) : Int)] Y fun e w' => e = .returned (.int .i64 ((k + 2 * l1.length + l2.length : Nat) : Int)) ∧ Wi B2 (B2 + 1) Y w' ∧ Below base Y w') := fun Y c => markBM_k (by omega) (by omega) f1 c base (by omega)
  clear c0 f0 c1 f1 o0 hV bV hk0 hk hlo hhi hb
  generalize ((k + 2 * l1.length + l2.length : Nat) : Int) = q2 at *
  generalize ((k + 2 * l1.length : Nat) : Int) = q1 at *
  generalize (k : Int) = q0 at *
  generalize l1.length = nl1 at *
  generalize l2.length = nl2 at *
  go_enter Tryz.func30, Tryz.ntmps30
  go_wp2_with fail
  rw [← HV.out]
  refine (C0.out _ G0.out).mono ?_
  rintro e w1 ⟨rfl, hg, hb⟩
  replace F := hidL (F.out.wi hg (.inr (by have := L0.out; omega)))
  replace G1 := hidL (G1.out.wi hg (by have := OO.out; omega))
  have KW : Hid (Wi lo hi X w1 ∧ Below base X w1) := ⟨(Wi.of xX.out).trans (hg.wide L0.out.2.2.1 L0.out.2.2.2), (xX.out.mono (by have := L0.out; omega)).trans hb⟩
  clear hg hb C0 G0 HV
  have p0 := F.out.val.1 0 _ rfl
  have p1 := F.out.val.1 1 _ rfl
  have p2 := F.out.val.1 2 _ rfl
  go_wp2_with fail
  refine (C1.out _ G1.out).mono ?_
  rintro e w2 ⟨rfl, hg, hb⟩
  clear p0 p1 p2
  replace F := hidL (F.out.wi hg (.inr (by have := L1.out; omega)))
  replace KW : Hid (Wi lo hi X w2 ∧ Below base X w2) := ⟨KW.out.1.trans (hg.wide L1.out.2.2.1 L1.out.2.2.2), KW.out.2.trans hb⟩
  clear hg hb C1 G1
  go_wp2_with fail
  go_ret
  exact ⟨rfl, KW.out⟩
set_option maxHeartbeats 4000000 in
theorem markRequest_k (X : World) (m h p : ByteArray) (B1 : Nat) (l1 : List Hdr) (k lo hi base : Nat) (hk0 : 1 ≤ k) (hk : k ≤ 10000000000000) (f0 : l1.length ≤ 1048576) (c0 : At B1 (B1 + 1) (QM B1 l1) X)  (hlo : lo ≤ B1) (hhi : B1 < hi) (hb : base ≤ lo) :
    Calls Tryz.prog 17 #[.agg #[.string m, .string h, .string p, .slice (some ⟨B1, 0, none⟩) l1.length l1.length], .int .i64 (k : Int)] X fun e w' => e = .returned (.int .i64 ((k + 2 * l1.length : Nat) : Int)) ∧ Wi lo hi X w' ∧ Below base X w' := by
  obtain ⟨V, hV⟩ : ∃ V, V = X.alloc (.cells #[.string m, .string h, .string p, .slice (some ⟨B1, 0, none⟩) l1.length l1.length] 35) := ⟨_, rfl⟩
  have HV : Hid (V = X.alloc (.cells #[.string m, .string h, .string p, .slice (some ⟨B1, 0, none⟩) l1.length l1.length] 35)) := hV
  have bV : Below X.heap.size X V := by rw [hV]; exact (Below.refl _ _).alloc (Nat.le_refl _) _
  have xX : Hid (Below X.heap.size X V) := bV
  have F : Hid (At X.heap.size (X.heap.size + 1) (Bx X.heap.size [.string m, .string h, .string p, .slice (some ⟨B1, 0, none⟩) l1.length l1.length]) V) := by rw [hV]; exact Bx.new _ _ _
  have G0 : Hid (At B1 (B1 + 1) (QM B1 l1) V) := c0.keep bV
  have L0 : Hid (B1 < X.heap.size ∧ base ≤ B1 ∧ lo ≤ B1 ∧ B1 < hi) := ⟨c0.le, by omega, by omega, by omega⟩
  have C0 : Hid (∀ Y, At B1 (B1 + 1) (QM B1 l1) Y → Calls Tryz.prog 70 #[.slice (some ⟨B1, 0, none⟩) l1.length l1.length, .int .i64 (k : Int)] Y fun e w' => e = .returned (.int .i64 ((k + 2 * l1.length : Nat) : Int)) ∧ Wi B1 (B1 + 1) Y w' ∧ Below base Y w') := fun Y c => markQ_k (by omega) (by omega) f0 c base (by omega)
  clear c0 f0  hV bV hk0 hk hlo hhi hb
  generalize ((k + 2 * l1.length : Nat) : Int) = q1 at *
  generalize (k : Int) = q0 at *
  generalize l1.length = nl1 at *
  go_enter Tryz.func17, Tryz.ntmps17
  go_wp2_with fail
  rw [← HV.out]
  refine (C0.out _ G0.out).mono ?_
  rintro e w1 ⟨rfl, hg, hb⟩
  replace F := hidL (F.out.wi hg (.inr (by have := L0.out; omega)))
  have KW : Hid (Wi lo hi X w1 ∧ Below base X w1) := ⟨(Wi.of xX.out).trans (hg.wide L0.out.2.2.1 L0.out.2.2.2), (xX.out.mono (by have := L0.out; omega)).trans hb⟩
  clear hg hb C0 G0 HV
  go_wp2_with fail
  go_ret
  exact ⟨rfl, KW.out⟩
set_option maxHeartbeats 4000000 in
theorem markEntry_k (X : World) (ek : ByteArray) (es e1 e2 e3 e4 e5 : Int) (f1 f2 : Bool) (ep : Int) (B1 : Nat) (l1 : List Hdr) (B2 : Nat) (l2 : List UInt8) (B3 : Nat) (l3 : List ByteArray) (k lo hi base : Nat) (hk0 : 1 ≤ k) (hk : k ≤ 10000000000000) (g0 : l1.length ≤ 1048576) (c0 : At B1 (B1 + 1) (QM B1 l1) X) (g1 : l2.length ≤ 1048576) (c1 : At B2 (B2 + 1) (BM B2 l2) X) (g2 : l3.length ≤ 1048576) (c2 : At B3 (B3 + 1) (TM B3 l3) X) (o0 : B1 < B2) (o1 : B2 < B3) (hlo : lo ≤ B1) (hhi : B3 < hi) (hb : base ≤ lo) :
    Calls Tryz.prog 18 #[.agg #[.string ek, .int .i64 es, .slice (some ⟨B1, 0, none⟩) l1.length l1.length, .slice (some ⟨B2, 0, none⟩) l2.length l2.length, .int .i64 e1, .int .i64 e2, .int .i64 e3, .int .i64 e4, .int .i64 e5, .bool f1, .bool f2, .slice (some ⟨B3, 0, none⟩) l3.length l3.length, .int .i64 ep], .int .i64 (k : Int)] X fun e w' => e = .returned (.int .i64 ((k + 2 * l1.length + l2.length + l3.length : Nat) : Int)) ∧ Wi lo hi X w' ∧ Below base X w' := by
  obtain ⟨V, hV⟩ : ∃ V, V = X.alloc (.cells #[.string ek, .int .i64 es, .slice (some ⟨B1, 0, none⟩) l1.length l1.length, .slice (some ⟨B2, 0, none⟩) l2.length l2.length, .int .i64 e1, .int .i64 e2, .int .i64 e3, .int .i64 e4, .int .i64 e5, .bool f1, .bool f2, .slice (some ⟨B3, 0, none⟩) l3.length l3.length, .int .i64 ep] 42) := ⟨_, rfl⟩
  have HV : Hid (V = X.alloc (.cells #[.string ek, .int .i64 es, .slice (some ⟨B1, 0, none⟩) l1.length l1.length, .slice (some ⟨B2, 0, none⟩) l2.length l2.length, .int .i64 e1, .int .i64 e2, .int .i64 e3, .int .i64 e4, .int .i64 e5, .bool f1, .bool f2, .slice (some ⟨B3, 0, none⟩) l3.length l3.length, .int .i64 ep] 42)) := hV
  have bV : Below X.heap.size X V := by rw [hV]; exact (Below.refl _ _).alloc (Nat.le_refl _) _
  have xX : Hid (Below X.heap.size X V) := bV
  have F : Hid (At X.heap.size (X.heap.size + 1) (Bx X.heap.size [.string ek, .int .i64 es, .slice (some ⟨B1, 0, none⟩) l1.length l1.length, .slice (some ⟨B2, 0, none⟩) l2.length l2.length, .int .i64 e1, .int .i64 e2, .int .i64 e3, .int .i64 e4, .int .i64 e5, .bool f1, .bool f2, .slice (some ⟨B3, 0, none⟩) l3.length l3.length, .int .i64 ep]) V) := by rw [hV]; exact Bx.new _ _ _
  have G0 : Hid (At B1 (B1 + 1) (QM B1 l1) V) := c0.keep bV
  have L0 : Hid (B1 < X.heap.size ∧ base ≤ B1 ∧ lo ≤ B1 ∧ B1 < hi) := ⟨c0.le, by omega, by omega, by omega⟩
  have G1 : Hid (At B2 (B2 + 1) (BM B2 l2) V) := c1.keep bV
  have L1 : Hid (B2 < X.heap.size ∧ base ≤ B2 ∧ lo ≤ B2 ∧ B2 < hi) := ⟨c1.le, by omega, by omega, by omega⟩
  have G2 : Hid (At B3 (B3 + 1) (TM B3 l3) V) := c2.keep bV
  have L2 : Hid (B3 < X.heap.size ∧ base ≤ B3 ∧ lo ≤ B3 ∧ B3 < hi) := ⟨c2.le, by omega, by omega, by omega⟩
  have OO : Hid (B1 < B2 ∧ B2 < B3) := ⟨o0, o1⟩
  have C0 : Hid (∀ Y, At B1 (B1 + 1) (QM B1 l1) Y → Calls Tryz.prog 70 #[.slice (some ⟨B1, 0, none⟩) l1.length l1.length, .int .i64 (k : Int)] Y fun e w' => e = .returned (.int .i64 ((k + 2 * l1.length : Nat) : Int)) ∧ Wi B1 (B1 + 1) Y w' ∧ Below base Y w') := fun Y c => markQ_k (by omega) (by omega) g0 c base (by omega)
  have C1 : Hid (∀ Y, At B2 (B2 + 1) (BM B2 l2) Y → Calls Tryz.prog 71 #[.slice (some ⟨B2, 0, none⟩) l2.length l2.length, .int .i64 ((k + 2 * l1.length : Nat) : Int)] Y fun e w' => e = .returned (.int .i64 ((k + 2 * l1.length + l2.length : Nat) : Int)) ∧ Wi B2 (B2 + 1) Y w' ∧ Below base Y w') := fun Y c => markBM_k (by omega) (by omega) g1 c base (by omega)
  have C2 : Hid (∀ Y, At B3 (B3 + 1) (TM B3 l3) Y → Calls Tryz.prog 72 #[.slice (some ⟨B3, 0, none⟩) l3.length l3.length, .int .i64 ((k + 2 * l1.length + l2.length : Nat) : Int)] Y fun e w' => e = .returned (.int .i64 ((k + 2 * l1.length + l2.length + l3.length : Nat) : Int)) ∧ Wi B3 (B3 + 1) Y w' ∧ Below base Y w') := fun Y c => markTM_k (by omega) (by omega) g2 c base (by omega)
  clear c0 g0 c1 g1 c2 g2 o0 o1 hV bV hk0 hk hlo hhi hb
  generalize ((k + 2 * l1.length + l2.length + l3.length : Nat) : Int) = q3 at *
  generalize ((k + 2 * l1.length + l2.length : Nat) : Int) = q2 at *
  generalize ((k + 2 * l1.length : Nat) : Int) = q1 at *
  generalize (k : Int) = q0 at *
  generalize l1.length = nl1 at *
  generalize l2.length = nl2 at *
  generalize l3.length = nl3 at *
  go_enter Tryz.func18, Tryz.ntmps18
  go_wp2_with fail
  rw [← HV.out]
  refine (C0.out _ G0.out).mono ?_
  rintro e w1 ⟨rfl, hg, hb⟩
  replace F := hidL (F.out.wi hg (.inr (by have := L0.out; omega)))
  replace G1 := hidL (G1.out.wi hg (by have := OO.out; omega))
  replace G2 := hidL (G2.out.wi hg (by have := OO.out; omega))
  have KW : Hid (Wi lo hi X w1 ∧ Below base X w1) := ⟨(Wi.of xX.out).trans (hg.wide L0.out.2.2.1 L0.out.2.2.2), (xX.out.mono (by have := L0.out; omega)).trans hb⟩
  clear hg hb C0 G0 HV
  have p0 := F.out.val.1 0 _ rfl
  have p1 := F.out.val.1 1 _ rfl
  have p2 := F.out.val.1 2 _ rfl
  have p3 := F.out.val.1 3 _ rfl
  have p4 := F.out.val.1 4 _ rfl
  have p5 := F.out.val.1 5 _ rfl
  have p6 := F.out.val.1 6 _ rfl
  have p7 := F.out.val.1 7 _ rfl
  have p8 := F.out.val.1 8 _ rfl
  have p9 := F.out.val.1 9 _ rfl
  have p10 := F.out.val.1 10 _ rfl
  have p11 := F.out.val.1 11 _ rfl
  have p12 := F.out.val.1 12 _ rfl
  go_wp2_with fail
  refine (C1.out _ G1.out).mono ?_
  rintro e w2 ⟨rfl, hg, hb⟩
  clear p0 p1 p2 p3 p4 p5 p6 p7 p8 p9 p10 p11 p12
  replace F := hidL (F.out.wi hg (.inr (by have := L1.out; omega)))
  replace G2 := hidL (G2.out.wi hg (by have := OO.out; omega))
  replace KW : Hid (Wi lo hi X w2 ∧ Below base X w2) := ⟨KW.out.1.trans (hg.wide L1.out.2.2.1 L1.out.2.2.2), KW.out.2.trans hb⟩
  clear hg hb C1 G1
  have p0 := F.out.val.1 0 _ rfl
  have p1 := F.out.val.1 1 _ rfl
  have p2 := F.out.val.1 2 _ rfl
  have p3 := F.out.val.1 3 _ rfl
  have p4 := F.out.val.1 4 _ rfl
  have p5 := F.out.val.1 5 _ rfl
  have p6 := F.out.val.1 6 _ rfl
  have p7 := F.out.val.1 7 _ rfl
  have p8 := F.out.val.1 8 _ rfl
  have p9 := F.out.val.1 9 _ rfl
  have p10 := F.out.val.1 10 _ rfl
  have p11 := F.out.val.1 11 _ rfl
  have p12 := F.out.val.1 12 _ rfl
  go_wp2_with fail
  refine (C2.out _ G2.out).mono ?_
  rintro e w3 ⟨rfl, hg, hb⟩
  clear p0 p1 p2 p3 p4 p5 p6 p7 p8 p9 p10 p11 p12
  replace F := hidL (F.out.wi hg (.inr (by have := L2.out; omega)))
  replace KW : Hid (Wi lo hi X w3 ∧ Below base X w3) := ⟨KW.out.1.trans (hg.wide L2.out.2.2.1 L2.out.2.2.2), KW.out.2.trans hb⟩
  clear hg hb C2 G2
  go_wp2_with fail
  go_ret
  exact ⟨rfl, KW.out⟩
set_option maxHeartbeats 4000000 in
theorem markAsk_k (X : World) (neg now : Int) (B1 : Nat) (l1 : List ByteArray) (k lo hi base : Nat) (hk0 : 1 ≤ k) (hk : k ≤ 10000000000000) (f0 : l1.length ≤ 1048576) (c0 : At B1 (B1 + 1) (TM B1 l1) X)  (hlo : lo ≤ B1) (hhi : B1 < hi) (hb : base ≤ lo) :
    Calls Tryz.prog 31 #[.agg #[.slice (some ⟨B1, 0, none⟩) l1.length l1.length, .int .i64 neg, .int .i64 now], .int .i64 (k : Int)] X fun e w' => e = .returned (.int .i64 ((k + l1.length : Nat) : Int)) ∧ Wi lo hi X w' ∧ Below base X w' := by
  obtain ⟨V, hV⟩ : ∃ V, V = X.alloc (.cells #[.slice (some ⟨B1, 0, none⟩) l1.length l1.length, .int .i64 neg, .int .i64 now] 63) := ⟨_, rfl⟩
  have HV : Hid (V = X.alloc (.cells #[.slice (some ⟨B1, 0, none⟩) l1.length l1.length, .int .i64 neg, .int .i64 now] 63)) := hV
  have bV : Below X.heap.size X V := by rw [hV]; exact (Below.refl _ _).alloc (Nat.le_refl _) _
  have xX : Hid (Below X.heap.size X V) := bV
  have F : Hid (At X.heap.size (X.heap.size + 1) (Bx X.heap.size [.slice (some ⟨B1, 0, none⟩) l1.length l1.length, .int .i64 neg, .int .i64 now]) V) := by rw [hV]; exact Bx.new _ _ _
  have G0 : Hid (At B1 (B1 + 1) (TM B1 l1) V) := c0.keep bV
  have L0 : Hid (B1 < X.heap.size ∧ base ≤ B1 ∧ lo ≤ B1 ∧ B1 < hi) := ⟨c0.le, by omega, by omega, by omega⟩
  have C0 : Hid (∀ Y, At B1 (B1 + 1) (TM B1 l1) Y → Calls Tryz.prog 72 #[.slice (some ⟨B1, 0, none⟩) l1.length l1.length, .int .i64 (k : Int)] Y fun e w' => e = .returned (.int .i64 ((k + l1.length : Nat) : Int)) ∧ Wi B1 (B1 + 1) Y w' ∧ Below base Y w') := fun Y c => markTM_k (by omega) (by omega) f0 c base (by omega)
  clear c0 f0  hV bV hk0 hk hlo hhi hb
  generalize ((k + l1.length : Nat) : Int) = q1 at *
  generalize (k : Int) = q0 at *
  generalize l1.length = nl1 at *
  go_enter Tryz.func31, Tryz.ntmps31
  go_wp2_with fail
  rw [← HV.out]
  refine (C0.out _ G0.out).mono ?_
  rintro e w1 ⟨rfl, hg, hb⟩
  replace F := hidL (F.out.wi hg (.inr (by have := L0.out; omega)))
  have KW : Hid (Wi lo hi X w1 ∧ Below base X w1) := ⟨(Wi.of xX.out).trans (hg.wide L0.out.2.2.1 L0.out.2.2.2), (xX.out.mono (by have := L0.out; omega)).trans hb⟩
  clear hg hb C0 G0 HV
  go_wp2_with fail
  go_ret
  exact ⟨rfl, KW.out⟩
end Go.Proofs.YtolkgnnjocmkdaaGreatDoor
/-
  Pieces of the program's copying of an entry: lineOf, bytes.Clone, one more behind a row.
-/
namespace Go.Proofs.YtolkgnnjocmkdaaGreatDoor
open Go.ChangeShapes Go.WideShapes Go.ChangeAt Go.RowKit Go.Sort
set_option maxHeartbeats 2000000 in
theorem lineOf_anew (n z : ByteArray) (w : World) (hn : n.size ≤ 1048576) (hz : z.size ≤ 1048576) :
    Calls Tryz.prog 65 #[.string n, .string z] w fun e w' => e = .returned (.agg #[.string n, .string z]) ∧ Below w.heap.size w w' := by
  have C1 : Hid (∀ X, Calls Tryz.prog 104 #[.string n] X fun e w' => e = .returned (.string n) ∧ Below X.heap.size X w') := fun X => clone_text n X hn
  have C2 : Hid (∀ X, Calls Tryz.prog 104 #[.string z] X fun e w' => e = .returned (.string z) ∧ Below X.heap.size X w') := fun X => clone_text z X hz
  obtain ⟨W, hW⟩ : ∃ W, W = w.alloc (.cells #[.string ⟨#[]⟩, .string ⟨#[]⟩] 110) := ⟨_, rfl⟩
  have HW : Hid (W = w.alloc (.cells #[.string ⟨#[]⟩, .string ⟨#[]⟩] 110)) := hW
  have K0 : Hid (Below w.heap.size w W ∧ W.cell? ⟨w.heap.size, 0, none⟩ = some (.string ⟨#[]⟩) ∧ W.cell? ⟨w.heap.size, 1, none⟩ = some (.string ⟨#[]⟩) ∧ (∀ o, W.frozen? ⟨w.heap.size, o, none⟩ = false) ∧ w.heap.size < W.heap.size) := by
    rw [hW]; exact ⟨(Below.refl _ _).alloc (Nat.le_refl _) _, by simp, by simp, fun o => by simp, by simp⟩
  clear hW
  go_enter Tryz.func65, Tryz.ntmps65
  go_wp2_with fail
  rw [← HW.out]
  refine (C1.out _).mono ?_
  rintro e w1 ⟨rfl, hb1⟩
  go_wp2_with fail
  refine (C2.out _).mono ?_
  rintro e w2 ⟨rfl, hb2⟩
  have b2 : Below W.heap.size W w2 := hb1.trans (hb2.mono hb1.size)
  have r0 : w2.cell? ⟨w.heap.size, 0, none⟩ = some (.string ⟨#[]⟩) := by rw [b2.cell (p := ⟨w.heap.size, 0, none⟩) K0.out.2.2.2.2]; exact K0.out.2.1
  have r1 : w2.cell? ⟨w.heap.size, 1, none⟩ = some (.string ⟨#[]⟩) := by rw [b2.cell (p := ⟨w.heap.size, 1, none⟩) K0.out.2.2.2.2]; exact K0.out.2.2.1
  have f0 : w2.frozen? ⟨w.heap.size, 0, none⟩ = false := by rw [b2.frozen (p := ⟨w.heap.size, 0, none⟩) K0.out.2.2.2.2]; exact K0.out.2.2.2.1 0
  have f1 : w2.frozen? ⟨w.heap.size, 1, none⟩ = false := by rw [b2.frozen (p := ⟨w.heap.size, 1, none⟩) K0.out.2.2.2.2]; exact K0.out.2.2.2.1 1
  have HB : Hid (Below w.heap.size w w2) := K0.out.1.trans (b2.mono K0.out.1.size)
  clear hb1 hb2 b2 K0 HW C1 C2
  go_wp2_with fail
  exact bodyPost_ret (v := .agg #[.string n, .string z]) (by simp [results, Tryz.results65, go_sem, r0, r1]) rfl ⟨rfl, (HB.out.setCell (Nat.le_refl _) _).setCell (Nat.le_refl _) _⟩
set_option maxRecDepth 100000 in
set_option maxHeartbeats 4000000 in
theorem bClone_any (w : World) (a : Option Addr) (cap : Nat) (l : List UInt8) (hl : l.length ≤ 1048576) (hi : BIn w a l) :
    Calls Tryz.prog 159 #[.slice a l.length cap] w fun e w' => (∃ v, e = .returned v ∧ RowB w' w.heap.size v l) ∧ Below w.heap.size w w' := by
  cases a with
  | none =>
    have e : l = [] := by
      rcases hi with h | ⟨b, off, h, _⟩
      · exact h
      · cases h
    subst e
    clear hi
    have hnil := fun w => Lib.run_eql_slice_nil (P := Tryz.prog) w 25 5 none 0 cap 0 0 Tryz.underlying25
    simp only [Option.isNone_none] at hnil
    go_enter Tryz.func159, Tryz.ntmps159
    go_wp2_with fail
    go_ret
    exact ⟨⟨_, rfl, World.ownsRow_nil _ _ _ _⟩, Below.refl _ _⟩
  | some p =>
    obtain ⟨i0, hi0, hz0, hz1, hz2⟩ := info_parts cByteI
    have B1 : Hid (Below w.heap.size w (w.alloc (.cells #[] 5))) := (Below.refl _ _).alloc (Nat.le_refl _) _
    have O1 : Hid ((w.alloc (.cells #[] 5)).ownsRow w.heap.size 5 1 (.slice (some ⟨w.heap.size, 0, none⟩) 0 0) 0 []) := World.ownsRow_made w #[] 0 (Nat.le_refl _) (by unfold maxLen; omega) rfl
    have HIN : Hid (l.length = 0 ∨ ∃ ad, some p = some ad ∧ ∀ j u, (cBytes l)[j]? = some u → (w.alloc (.cells #[] 5)).cell? (ad.add j) = some u) := cBytes_in (hi.keep B1.out)
    have HLN : Hid ((cBytes l).length = l.length * 1) := by show _ = _; unfold cBytes; simp
    have HRW : Hid (∀ X v, X.ownsRow w.heap.size 5 1 v (0 + l.length) ([] ++ cBytes l) → RowB X w.heap.size v l) := fun X v h => by rw [Nat.zero_add, List.nil_append] at h; exact h
    clear hi
    generalize hn : l.length = n at *
    clear hn
    have hnil := fun w => Lib.run_eql_slice_nil (P := Tryz.prog) w 25 5 (some p) n cap 0 0 Tryz.underlying25
    simp only [Option.isNone_some] at hnil
    go_enter Tryz.func159, Tryz.ntmps159
    go_wp2_with (at_builtin; refine wpList_plain rfl fun _ hK => wp_append_in _ (.tmp 5) (.tmp 6) 25 5 rfl i0 _ 1 1 Tryz.underlying25 hi0 hz0 hz1 hz2 rfl (by omega) w.heap.size _ 0 [] rfl O1.out (some p) cap n (cBytes l) rfl HLN.out HIN.out (cOneB l) (by unfold maxLen; omega) (by omega) B1.out.size (fun v' w' h1 h2 _ => hK _ _ ?_))
    go_ret
    exact ⟨⟨_, rfl, HRW.out _ _ h1⟩, B1.out.trans h2⟩
end Go.Proofs.YtolkgnnjocmkdaaGreatDoor
/-
  slices.Insert of one head line into lines of the call's own.
-/
namespace Go.Proofs.YtolkgnnjocmkdaaGreatDoor
open Go.ChangeShapes Go.WideShapes Go.ChangeAt Go.RowKit Go.Sort
theorem hdr_size2 : (Tryz.prog.info? 110).map (·.size) = some 2 := by kernel_rfl
theorem hdr_mixed : Tryz.prog.follows .mixedOrders = true := by kernel_rfl
/-- copy between slices of two cells an element, into a row. -/
theorem run_copy_row2 (w : World) (ty : TypeId) (g o dLen dCap : Nat) (a : Addr) (sLen sCap n : Nat) (cur : Array Value) (t : TypeId) (cs : List Value)
    (hg : w.heap[g]? = some (.cells cur t (0, 0))) (hn : n = Nat.min sLen dLen) (hcl : cs.length = n * 2)
    (hsrc : ∀ j v, cs[j]? = some v → w.cell? (a.add j) = some v) (hfit : o + cs.length ≤ cur.size) (h1 : ∀ v ∈ cs, v.oneCell' = true) :
    (Builtin.copy_ #[33, 33] ty #[.slice (some ⟨g, o, none⟩) dLen dCap, .slice (some a) sLen sCap]).run Tryz.prog w =
      .ok (goInt n) (w.setRow g (cur.toList.take o ++ cs ++ cur.toList.drop (o + cs.length)).toArray) := by
  have hl := run_loadCells_list (P := Tryz.prog) w a cs hsrc
  have hst := run_storeCells_at Tryz.prog g o t cs 0 cur w hg (by simpa using hfit) h1
  have hu := Tryz.underlying33
  cases hq : Tryz.prog.info? 110 with
  | none => have := hdr_size2; simp [hq] at this
  | some i =>
    have hi : i.size = 2 := by have := hdr_size2; simpa [hq] using this
    rw [hcl] at hl
    simp [Builtin.copy_, run_underlying hu, Builtin.lenOf, Builtin.firstCells, sizeOf, typeInfo, hq, hi, ← hn, hl, hst]
theorem wp_copy_runH (w : World) {o : Oper} {a : Act} {K : Act → World → Prop} {Q : Exit → Act → World → Prop} (d s : Operand) (t t' : TypeId)
    (ho : o.op = .call { callee := .builtin .copy, args := #[d, s], argTypes := #[t, t'] }) (v u : Value) (hd : a.eval d = v) (hs : a.eval s = u) {v' : Value} {w' : World}
    (hr : (Builtin.copy_ #[t, t'] o.type #[v, u]).run Tryz.prog w = .ok v' w') (h : K (a.put o.dst v') w') : o.wp Tryz.prog a w K Q := by
  unfold Oper.wp execOp
  simp only [ho, resolve, invoke, builtin, Sem.run_bind, Sem.run_pure, Result.andThen_ok, List.map_toArray, List.map_cons, List.map_nil, hd, hs, hr]
  exact h
theorem wpList_copy_runH (w : World) {ops : Array Oper} {rest : List Oper} {o : Oper} {a : Act} {Q : Exit → Act → World → Prop} (hgd : o.guard = none) (d s : Operand) (t t' : TypeId)
    (ho : o.op = .call { callee := .builtin .copy, args := #[d, s], argTypes := #[t, t'] }) (v u : Value) (hd : a.eval d = v) (hs : a.eval s = u) {v' : Value} {w' : World}
    (hr : (Builtin.copy_ #[t, t'] o.type #[v, u]).run Tryz.prog w = .ok v' w') (h : wpList Tryz.prog ops Q rest (a.put o.dst v') w') : wpList Tryz.prog ops Q (o :: rest) a w :=
  wpList_plain hgd fun _ hK => wp_copy_runH w d s t t' ho v u hd hs hr (hK _ _ h)
theorem grown_setRow (w : World) (g : Nat) (cs : Array Value) : w.grownBy (w.setRow g cs) (some g) :=
  ⟨rfl, rfl, rfl, by simp, fun i _ hi => setRow_other w g i cs (fun e => hi (by rw [e]))⟩
theorem below_setRow {base g : Nat} (w : World) (cs : Array Value) (hg : base ≤ g) (hw : base ≤ w.heap.size) : Below base w (w.setRow g cs) :=
  (Below.refl base w).grown (grown_setRow w g cs) hw (fun k hk => by cases hk; exact hg)
theorem hdrsW_one (l : List Hdr) : ∀ v ∈ hdrsW l, v.oneCell' = true := by
  intro v hv
  obtain ⟨r, _, hr⟩ := List.mem_flatMap.1 hv
  simp only [hdrW, List.mem_cons, List.not_mem_nil, or_false] at hr
  rcases hr with rfl | rfl <;> rfl
theorem hdrsW_app (l m : List Hdr) : hdrsW (l ++ m) = hdrsW l ++ hdrsW m := by simp [hdrsW]
theorem hdrsW_take (l : List Hdr) (i : Nat) (hi : i ≤ l.length) : (hdrsW l).take (i * 2) = hdrsW (l.take i) := by
  have h : hdrsW l = hdrsW (l.take i) ++ hdrsW (l.drop i) := by rw [← hdrsW_app, List.take_append_drop]
  rw [h, List.take_left' (by rw [hdrsW_len, List.length_take]; omega)]
theorem hdrsW_drop (l : List Hdr) (i : Nat) (hi : i ≤ l.length) : (hdrsW l).drop (i * 2) = hdrsW (l.drop i) := by
  have h : hdrsW l = hdrsW (l.take i) ++ hdrsW (l.drop i) := by rw [← hdrsW_app, List.take_append_drop]
  rw [h, List.drop_left' (by rw [hdrsW_len, List.length_take]; omega)]
/-- What the two copies leave, where there is room. -/
theorem rows_shift (A B T : List Value) (x y : Value) (k : Nat) (hA : A.length = k) (hT : 2 ≤ T.length) :
    ((((A ++ B ++ T).take (k + 2) ++ B ++ (A ++ B ++ T).drop (k + 2 + B.length)).take k ++ [x, y] ++ ((A ++ B ++ T).take (k + 2) ++ B ++ (A ++ B ++ T).drop (k + 2 + B.length)).drop (k + 2))) = A ++ [x, y] ++ B ++ T.drop 2 := by
  have h1 : ((A ++ B ++ T).take (k + 2)).length = k + 2 := by simp; omega
  have e1 : ((A ++ B ++ T).take (k + 2) ++ B ++ (A ++ B ++ T).drop (k + 2 + B.length)).drop (k + 2) = B ++ (A ++ B ++ T).drop (k + 2 + B.length) := by
    rw [List.append_assoc, List.drop_left' h1]
  have e2 : ((A ++ B ++ T).take (k + 2) ++ B ++ (A ++ B ++ T).drop (k + 2 + B.length)).take k = A := by
    rw [List.append_assoc, List.take_append_of_le_length (by omega), List.take_take, Nat.min_eq_left (by omega), List.append_assoc, List.take_left' hA]
  have e3 : (A ++ B ++ T).drop (k + 2 + B.length) = T.drop 2 := by
    rw [show k + 2 + B.length = (A ++ B).length + 2 from by simp; omega, List.drop_append]
    simp
  rw [e1, e2, e3]
  simp
/-- What the two copies leave in a new row. -/
theorem rows_grow (A B Z T : List Value) (x y : Value) (k : Nat) (hA : A.length = k) (hZ : Z.length = B.length + 2) :
    (((A ++ Z ++ T).take k ++ [x, y] ++ (A ++ Z ++ T).drop (k + 2)).take (k + 2) ++ B ++ ((A ++ Z ++ T).take k ++ [x, y] ++ (A ++ Z ++ T).drop (k + 2)).drop (k + 2 + B.length)) = A ++ [x, y] ++ B ++ T := by
  have e0 : (A ++ Z ++ T).take k = A := by rw [List.append_assoc, List.take_left' hA]
  have h2 : (A ++ [x, y]).length = k + 2 := by simp [hA]
  have e1 : (A ++ [x, y] ++ (A ++ Z ++ T).drop (k + 2)).take (k + 2) = A ++ [x, y] := List.take_left' h2
  have e2 : (A ++ [x, y] ++ (A ++ Z ++ T).drop (k + 2)).drop (k + 2 + B.length) = T := by
    rw [show k + 2 + B.length = (A ++ [x, y]).length + B.length from by omega, List.drop_append]
    have e3 : (A ++ [x, y]).drop ((A ++ [x, y]).length + B.length) = [] := List.drop_of_length_le (by omega)
    rw [e3, List.nil_append, show (A ++ [x, y]).length + B.length - (A ++ [x, y]).length = B.length from by omega, List.drop_drop]
    rw [show k + 2 + B.length = (A ++ Z).length from by simp; omega, List.drop_left]
  rw [e0, e1, e2]
end Go.Proofs.YtolkgnnjocmkdaaGreatDoor
/-
  slices.Insert of one head line: its roads.
-/
namespace Go.Proofs.YtolkgnnjocmkdaaGreatDoor
open Go.ChangeShapes Go.WideShapes Go.ChangeAt Go.RowKit Go.Sort
theorem wpList_append_line {ops : Array Oper} {rest : List Oper} {o : Oper} {a : Act} {Q : Exit → Act → World → Prop} (w : World) (hgd : o.guard = none) (s x : Operand)
    (ho : o.op = .call { callee := .builtin .append, args := #[s, x], argTypes := #[33, 33] }) (base : Nat) (v : Value) (l : List Hdr) (n z : ByteArray) (vb : Nat)
    (hs : a.eval s = v) (hx : a.eval x = .slice (some ⟨vb, 0, none⟩) 1 1) (hown : OwnH w base v l) (c0 : w.cell? ⟨vb, 0, none⟩ = some (.string n)) (c1 : w.cell? ⟨vb, 1, none⟩ = some (.string z)) (hl : l.length ≤ 1000000) (hbase : base ≤ w.heap.size)
    (h : ∀ v' w', OwnH w' base v' (l ++ [⟨n, z⟩]) → Below base w w' → wpList Tryz.prog ops Q rest (a.put o.dst v') w') :
    wpList Tryz.prog ops Q (o :: rest) a w := by
  obtain ⟨i0, hi, hz0, hz1, hz2⟩ := info_parts infoHeader
  refine wpList_append_own _ hgd s x 33 ho base 110 i0 (.agg #[.string ⟨#[]⟩, .string ⟨#[]⟩]) 2 32 Tryz.underlying33 hi hz0 hz1 hz2 rfl (by decide) v l.length (hdrsW l) hs hown ⟨vb, 0, none⟩ 1 1 [.string n, .string z] hx rfl ?_ ?_ ?_ ?_ ?_ ?_
  · intro j u hj
    match j, hj with
    | 0, hj => simp at hj; subst hj; simpa [Addr.add] using c0
    | 1, hj => simp at hj; subst hj; simpa [Addr.add] using c1
  · intro u hu; simp at hu; rcases hu with rfl | rfl <;> rfl
  · unfold maxLen; omega
  · omega
  · exact hbase
  · intro v' w' h1 h2 h3
    have e : hdrsW (l ++ [⟨n, z⟩]) = hdrsW l ++ [.string n, .string z] := by simp [hdrsW, hdrW]
    exact h v' w' (by unfold OwnH; rw [e, List.length_append]; exact h1) ((Below.refl base w).grown h2 hbase (fun q hq => own_geH hown q hq))
set_option maxRecDepth 100000 in
set_option maxHeartbeats 4000000 in
theorem insert_end (w : World) (base : Nat) (a : Option Addr) (c : Nat) (l : List Hdr) (hn hv : ByteArray) (vb : Nat) (hown : OwnH w base (.slice a l.length c) l) (hbase : base ≤ w.heap.size) (hl : l.length ≤ 1000) (c0 : w.cell? ⟨vb, 0, none⟩ = some (.string hn)) (c1 : w.cell? ⟨vb, 1, none⟩ = some (.string hv)) :
    Calls Tryz.prog 208 #[.slice a l.length c, .int .i64 (l.length : Int), .slice (some ⟨vb, 0, none⟩) 1 1] w fun e w' => KeptRes base (l ++ [⟨hn, hv⟩]) e w' ∧ Below base w w' := by
  have HO : Hid (OwnH w base (.slice a l.length c) l) := hown
  have C0 : Hid (w.cell? ⟨vb, 0, none⟩ = some (.string hn)) := c0
  have C1 : Hid (w.cell? ⟨vb, 1, none⟩ = some (.string hv)) := c1
  have hshape : (a = none ∧ l.length = 0 ∧ c = 0) ∨ ∃ g, a = some ⟨g, 0, none⟩ ∧ l.length ≤ c := by
    obtain ⟨_, h1 | ⟨g, c', cur, e, _, _, hc, _⟩⟩ := hown
    · left
      obtain ⟨e1, e2⟩ := h1
      have := Value.slice.inj e1
      exact ⟨this.1, e2, this.2.2⟩
    · right
      have := Value.slice.inj e
      exact ⟨g, this.1, by omega⟩
  have hlen : Hid (l.length ≤ 1000000) := by show _ ≤ _; omega
  clear hown c0 c1
  rcases hshape with ⟨rfl, h0, rfl⟩ | ⟨g, rfl, hc⟩
  · rw [h0] at HO ⊢
    go_enter Tryz.func208, Tryz.ntmps208
    go_wp2_with (at_builtin; refine wpList_append_line _ rfl (.tmp 23) (.tmp 24) rfl base _ l hn hv vb rfl rfl HO.out C0.out C1.out hlen.out hbase ?_; intro v' w' ho' hb')
    go_ret
    exact ⟨KeptRes.mk rfl ho', hb'⟩
  · have HLN : Hid (OwnH w base (.slice (some ⟨g, 0, none⟩) l.length c) l) := HO.out
    clear HO
    generalize hn2 : l.length = n at *
    have HN : Hid (l.length ≤ 1000000) := by show _ ≤ _; omega
    clear hn2 hlen
    have g0 : (0 : Int) ≤ n := by omega
    have g1 : (n : Int) ≤ c := by omega
    go_enter Tryz.func208, Tryz.ntmps208
    go_wp2_with (at_builtin; refine wpList_append_line _ rfl (.tmp 23) (.tmp 24) rfl base _ l hn hv vb rfl rfl HLN.out C0.out C1.out HN.out hbase ?_; intro v' w' ho' hb')
    all_goals (go_ret; exact ⟨KeptRes.mk rfl ho', hb'⟩)
theorem hdr_mid (l : List Hdr) (i : Nat) (hn hv : ByteArray) : hdrsW (l.take i ++ [⟨hn, hv⟩] ++ l.drop i) = hdrsW (l.take i) ++ [.string hn, .string hv] ++ hdrsW (l.drop i) := by
  rw [hdrsW_app, hdrsW_app]; rfl
theorem ownH_row {w : World} {base g c : Nat} {R : Array Value} {T : List Value} {l : List Hdr} {i : Nat} {hn hv : ByteArray} (hi : i ≤ l.length) (hg : w.heap[g]? = some (.cells R 110 (0, 0))) (hbg : base ≤ g) (hc : l.length + 1 ≤ c) (hcm : c ≤ maxLen) (hs : R.size = c * 2)
    (hR : R.toList = hdrsW (l.take i) ++ [.string hn, .string hv] ++ hdrsW (l.drop i) ++ T) : OwnH w base (.slice (some ⟨g, 0, none⟩) (l.length + 1) c) (l.take i ++ [⟨hn, hv⟩] ++ l.drop i) := by
  have hl : (l.take i ++ [(⟨hn, hv⟩ : Hdr)] ++ l.drop i).length = l.length + 1 := by simp only [List.length_append, List.length_take, List.length_cons, List.length_nil, List.length_drop]; omega
  unfold OwnH
  rw [hl]
  refine ⟨by rw [hdrsW_len, hl], .inr ⟨g, c, R, rfl, hbg, hg, hc, hcm, hs, ?_⟩⟩
  rw [hR, ← hdr_mid, List.take_left' (by rw [hdrsW_len, hl])]
set_option maxRecDepth 100000 in
set_option maxHeartbeats 8000000 in
theorem insert_shift (w : World) (base g c i : Nat) (cur : Array Value) (l : List Hdr) (hn hv : ByteArray) (vb : Nat) (vt : TypeId)
    (hg : w.heap[g]? = some (.cells cur 110 (0, 0))) (hbg : base ≤ g) (hbase : base ≤ w.heap.size) (hcm : c ≤ maxLen) (hcs : cur.size = c * 2) (hx : cur.toList.take (l.length * 2) = hdrsW l) (hl : l.length ≤ 1000) (hi : i < l.length) (hroom : l.length + 1 ≤ c) (hvg : vb ≠ g)
    (hvb : w.heap[vb]? = some (.cells #[.string hn, .string hv] vt (0, 0))) :
    Calls Tryz.prog 208 #[.slice (some ⟨g, 0, none⟩) l.length c, .int .i64 (i : Int), .slice (some ⟨vb, 0, none⟩) 1 1] w fun e w' => KeptRes base (l.take i ++ [⟨hn, hv⟩] ++ l.drop i) e w' ∧ Below base w w' := by
  unfold maxLen at hcm
  have hov : ∀ lb cb, (callFunc 252 #[.slice (some ⟨vb, 0, none⟩) 1 1, .slice (some ⟨g, (i + 1) * 2, none⟩) lb cb]).run Tryz.prog w = .ok (.value (.bool false)) w := fun lb cb => by
    rw [run_callFunc_extern Tryz.func252 (by kernel_rfl) (by kernel_rfl) (by kernel_rfl) (e := Extern.SlicesOverlaps.overlaps #[33, 33] #[4]) (by kernel_rfl),
      Lib.run_overlaps_apart w 33 4 110 Tryz.underlying33 2 Tryz.sizeOf110 ⟨vb, 0, none⟩ ⟨g, (i + 1) * 2, none⟩ 1 1 lb cb hvg vt 110 2 (c * 2) (by simp [World.shape?, hvb]) (by simp [World.shape?, hg, hcs]) (by omega) (by simp [World.frozen?, hvb]) (by simp [World.frozen?, hvb])]
    rfl
  have hAl : (hdrsW (l.take i)).length = i * 2 := by rw [hdrsW_len, List.length_take]; omega
  have hBl : (hdrsW (l.drop i)).length = (l.length - i) * 2 := by rw [hdrsW_len, List.length_drop]
  have hcur : cur.toList = hdrsW (l.take i) ++ hdrsW (l.drop i) ++ cur.toList.drop (l.length * 2) := by
    have e : hdrsW (l.take i) ++ hdrsW (l.drop i) = hdrsW l := by rw [← hdrsW_app, List.take_append_drop]
    rw [e, ← hx, List.take_append_drop]
  have hTl : (cur.toList.drop (l.length * 2)).length = (c - l.length) * 2 := by rw [List.length_drop, Array.length_toList, hcs]; omega
  have hend := fun (W : World) (R : Array Value) (T : List Value) => @ownH_row W base g c R T l i hn hv (by omega)
  have h1B := hdrsW_one (l.drop i)
  generalize hdrsW (l.take i) = A at *
  generalize hdrsW (l.drop i) = B at *
  generalize cur.toList.drop (l.length * 2) = T at *
  obtain ⟨R1, hR1⟩ : ∃ R1 : List Value, R1 = cur.toList.take (i * 2 + 2) ++ B ++ cur.toList.drop (i * 2 + 2 + B.length) := ⟨_, rfl⟩
  obtain ⟨R2, hR2⟩ : ∃ R2 : List Value, R2 = R1.take (i * 2) ++ [.string hn, .string hv] ++ R1.drop (i * 2 + 2) := ⟨_, rfl⟩
  have hR2e : R2 = A ++ [.string hn, .string hv] ++ B ++ T.drop 2 := by
    rw [hR2, hR1, hcur]
    exact rows_shift A B T _ _ (i * 2) hAl (by omega)
  have hcl : cur.toList.length = c * 2 := by rw [Array.length_toList, hcs]
  have hR1l : R1.length = c * 2 := by
    rw [hR1]
    simp only [List.length_append, List.length_take, List.length_drop, hcl, hBl]
    omega
  have hR2l : R2.length = c * 2 := by
    rw [hR2e]
    simp only [List.length_append, List.length_drop, List.length_cons, List.length_nil, hAl, hBl, hTl]
    omega
  have HC1 : Hid (∀ W : World, W.heap = w.heap → ∀ ty dc sc, (Builtin.copy_ #[33, 33] ty #[.slice (some ⟨g, (i + 1) * 2, none⟩) (l.length - i) dc, .slice (some ⟨g, i * 2, none⟩) (l.length + 1 - i) sc]).run Tryz.prog W = .ok (goInt ((l.length - i : Nat) : Int)) (W.setRow g R1.toArray)) := fun W hW ty dc sc => by
    have := run_copy_row2 W ty g ((i + 1) * 2) (l.length - i) dc ⟨g, i * 2, none⟩ (l.length + 1 - i) sc (l.length - i) cur 110 B (by rw [hW]; exact hg) (by simp only [Nat.min_def]; split <;> omega) hBl
      (fun j v hj => by
        rw [Addr.add_lit]
        simp only [World.cell?, hW, hg]
        rw [← Array.getElem?_toList, hcur, List.append_assoc, List.getElem?_append_right (by omega), hAl, show i * 2 + j - i * 2 = j from by omega, List.getElem?_append_left (List.getElem?_eq_some_iff.1 hj).1]
        exact hj) (by rw [hBl, hcs]; omega) h1B
    rw [this, hR1, show (i + 1) * 2 = i * 2 + 2 from by omega]
  have HC2 : Hid (∀ W : World, W.heap = w.heap → ∀ ty dc, (Builtin.copy_ #[33, 33] ty #[.slice (some ⟨g, i * 2, none⟩) (l.length + 1 - i) dc, .slice (some ⟨vb, 0, none⟩) 1 1]).run Tryz.prog (W.setRow g R1.toArray) = .ok (goInt 1) ((W.setRow g R1.toArray).setRow g R2.toArray)) := fun W hW ty dc => by
    have hgW : (W.setRow g R1.toArray).heap[g]? = some (.cells R1.toArray 110 (0, 0)) := setRow_heap W g cur _ 110 (0, 0) (by rw [hW]; exact hg)
    have hvW : (W.setRow g R1.toArray).heap[vb]? = some (.cells #[.string hn, .string hv] vt (0, 0)) := by rw [setRow_other W g vb _ hvg, hW]; exact hvb
    have := run_copy_row2 (W.setRow g R1.toArray) ty g (i * 2) (l.length + 1 - i) dc ⟨vb, 0, none⟩ 1 1 1 R1.toArray 110 [.string hn, .string hv] hgW (by simp only [Nat.min_def]; split <;> omega) rfl
      (fun j v hj => by
        rw [Addr.add_lit]
        simp only [World.cell?, hvW]
        match j, hj with
        | 0, hj => simpa using hj
        | 1, hj => simpa using hj) (by simp [hR1l]; omega) (by intro v hv; simp at hv; rcases hv with rfl | rfl <;> rfl)
    rw [this, hR2]
    simp
  have HEND : Hid (∀ W : World, W.heap = w.heap → KeptRes base (l.take i ++ [⟨hn, hv⟩] ++ l.drop i) (.returned (.slice (some ⟨g, 0, none⟩) (l.length + 1) c)) ((W.setRow g R1.toArray).setRow g R2.toArray)) := fun W hW => by
    refine KeptRes.mk rfl (hend _ R2.toArray (T.drop 2) ?_ hbg hroom (by unfold maxLen; exact hcm) (by simpa using hR2l) (by simpa using hR2e))
    exact setRow_heap _ g R1.toArray _ 110 (0, 0) (setRow_heap W g cur _ 110 (0, 0) (by rw [hW]; exact hg))
  have HBEL : Hid (∀ W : World, W = w.drew → Below base w ((W.setRow g R1.toArray).setRow g R2.toArray)) := fun W hW => by
    subst hW
    have h1 : Below base w w.drew := (Below.refl base w).drew
    have h2 := below_setRow (base := base) (g := g) w.drew R1.toArray hbg (Nat.le_trans hbase h1.size)
    exact (h1.trans h2).trans (below_setRow _ R2.toArray hbg (by simpa using Nat.le_trans hbase h1.size))
  clear hR1 hR2 hR2e hcur hend h1B hTl hBl hAl hR1l hR2l hcl hx hcs hg hvb
  generalize hn' : l.length = n at *
  have g1 : ¬ ((i : Int) = (n : Int)) := by omega
  have g2 : ¬ ((c : Int) < (n : Int) + 1) := by omega
  have g3 : (0 : Int) ≤ (i : Int) + 1 := by omega
  have g4 : (i : Int) ≤ (n : Int) := by omega
  have g5 : (n : Int) + 1 ≤ c := by omega
  have g6 : (i : Int) + 1 ≤ (n : Int) + 1 := by omega
  have g7 : (i : Int) ≤ (n : Int) + 1 := by omega
  have g8 : ¬ (c = i + 1) := by omega
  have g9 : ¬ (c = i) := by omega
  have hw1 : IntKind.i64.wrap ((i : Int) + 1) = (i : Int) + 1 := by rw [IntKind.wrap_i64]; omega
  have htn : ((i : Int) + 1).toNat = i + 1 := by omega
  go_enter Tryz.func208, Tryz.ntmps208
  go_wp2_with (simp only [hov])
  refine wp_region_still_tail 8 hdr_mixed (by kernel_rfl) ?_
  simp only [List.take_succ_cons, List.take_zero, List.drop_succ_cons, List.drop_zero]
  repeat still_step
  refine wpStill_nil ?_
  show wpList _ _ _ _ _ _
  refine wpList_copy_runH _ rfl (.tmp 73) (.tmp 76) 33 33 rfl (.slice (some ⟨g, (i + 1) * 2, none⟩) (n - i) (c - (i + 1))) (.slice (some ⟨g, i * 2, none⟩) (n + 1 - i) (c - i)) (by simp [Act.eval]) (by simp [Act.eval]) (HC1.out w.drew rfl _ _ _) ?_
  have hcp2 := HC2.out w.drew rfl
  go_wp2_with fail
  go_ret
  exact ⟨HEND.out w.drew rfl, HBEL.out w.drew rfl⟩
end Go.Proofs.YtolkgnnjocmkdaaGreatDoor
