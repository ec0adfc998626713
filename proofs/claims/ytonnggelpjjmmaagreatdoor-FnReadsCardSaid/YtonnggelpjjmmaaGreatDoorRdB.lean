/-
  Texts of one claim, one behind the other.
-/
import Derived.BigQuiet
import Derived.Deep.CutRange
import Derived.Deep.RegionHeld3
import Derived.Deep.RegionWith
import Derived.LaidEql
import Derived.Laws.CopyOwn
import Derived.Laws.RangeAny
import Derived.Laws.Tables
import Derived.Lib.LaidTab
import Derived.Lib.OthersKept
import Derived.Lib.QuietBelow
import Derived.MakeChecks
import Derived.Maps.OwnSet
import Derived.OwnWalk
import Derived.RowKitTokens
import Derived.Shelf.Strings.Prefix
import Derived.Stop.Asserts
import Derived.Stop.LaidErr
import Derived.Test.YtonnggelpjjmmaaGreatDoorRows
import Derived.Test.YtonnggelpjjmmaaGreatDoorRdA
/-
  What IsWord answers where the table lies in memory as the program lays it.
-/
namespace Go.Proofs.YtonnggelpjjmmaaGreatDoor
open Go.ChangeShapes Go.WideShapes Go.ChangeAt Go.RowKit
set_option maxHeartbeats 400000 in
theorem implIsWord_size (s : ByteArray) (w : World) (h : s.size < 1 ∨ 64 < s.size) :
    Calls Tryz.prog 59 #[.string s] w fun e w' => e = .returned (.bool false) ∧ Below w.heap.size w w' := by
  rcases h with h | h
  · have hh : (s.size : Int) < 1 := by omega
    go_enter Tryz.func59, Tryz.ntmps59
    go_wp2
    go_ret
    exact ⟨rfl, Below.refl _ _⟩
  · have hh : (64 : Int) < s.size := by omega
    have h1 : (1 : Int) ≤ s.size := by omega
    have d : decide ((s.size : Int) ≤ 64) = false := by simp; omega
    go_enter Tryz.func59, Tryz.ntmps59
    go_wp2
    go_ret
    exact ⟨rfl, Below.refl _ _⟩
/-- A whole array loaded behind a guard that lets it. -/
theorem wpList_load_row_g {P : Program} {ops : Array Oper} {rest : List Oper} {o : Oper} {a : Act} {w : World} {Q : Exit → Act → World → Prop} (hw : Region.wanted o (yielded ops a.tmps) = true) (ty : TypeId) (x : Operand) (ho : o.op = .load ty x)
    (g : Nat) (hx : a.eval x = .pointer (some ⟨g, 0, none⟩)) (t : TypeId) (cs : Array Value) (fr : Nat × Nat) (d : TypeDesc) (hg : w.heap[g]? = some (.cells cs t fr))
    (hu : P.underlying ty = some d) (hd : (match d with | .struct _ | .array _ _ => true | _ => false) = true) (hi : (P.info? ty).map (·.size) = some cs.size)
    (h : wpList P ops Q rest (a.put o.dst (.agg cs)) w) : wpList P ops Q (o :: rest) a w :=
  wpList_step fun _ hK => by rw [if_pos hw]; exact wp_load_row ty x ho g hx t cs fr d hg hu hd hi (hK _ _ h)
theorem infoSet : (Tryz.prog.info? 123).map (·.size) = some 128 := by kernel_rfl
set_option maxHeartbeats 400000 in
theorem implIsWord_mid (s : ByteArray) (w : World) (cs : Array Value) (tt : TypeId) (fr : Nat × Nat) (h1 : 1 ≤ s.size) (h2 : s.size ≤ 64) (hg : w.heap[4]? = some (.cells cs tt fr)) (hsz : cs.size = 128) (hcs : ∀ i, i < 128 → cs[i]? = some (.bool (wordI (i : Int)))) :
    Calls Tryz.prog 59 #[.string s] w fun e w' => e = .returned (.bool (allW s.data.toList)) ∧ Below w.heap.size w w' := by
  have g1 : (1 : Int) ≤ s.size := by omega
  have d : decide ((s.size : Int) ≤ 64) = true := by simp; omega
  have HG : Hid (w.heap[4]? = some (.cells cs tt fr)) := hg
  have HI : Hid ((Tryz.prog.info? 123).map (·.size) = some cs.size) := by
    show _ = _
    rw [infoSet, hsz]
  have HC : Hid (∀ i, i < 128 → cs[i]? = some (.bool (wordI (i : Int)))) := hcs
  clear hcs hg hsz
  go_enter Tryz.func59, Tryz.ntmps59
  go_wp2_with (refine wpList_load_row_g (by rfl) 123 (.global 4) rfl 4 rfl tt cs fr _ HG.out Tryz.underlying123 rfl HI.out ?_)
  refine (hasOnly_any s cs _ h2 HC.out).mono ?_
  rintro e w1 ⟨rfl, hb⟩
  go_wp2
  go_ret
  exact ⟨rfl, hb⟩
theorem implIsWord_any (s : ByteArray) (w : World) (cs : Array Value) (tt : TypeId) (fr : Nat × Nat) (hg : w.heap[4]? = some (.cells cs tt fr)) (hsz : cs.size = 128) (hcs : ∀ i, i < 128 → cs[i]? = some (.bool (wordI (i : Int)))) :
    Calls Tryz.prog 59 #[.string s] w fun e w' => e = .returned (.bool (wordS s)) ∧ Below w.heap.size w w' := by
  by_cases c : s.size < 1 ∨ 64 < s.size
  · have h : wordS s = false := by
      rcases c with c | c
      · exact wordS_short s c
      · exact wordS_long s c
    rw [h]; exact implIsWord_size s w c
  · rw [wordS_mid s (by omega) (by omega)]
    exact implIsWord_mid s w cs tt fr (by omega) (by omega) hg hsz hcs
end Go.Proofs.YtonnggelpjjmmaaGreatDoor
/-
  The law of IsWord out of contracts; what the row's list gives.
-/
namespace Go.Proofs.YtonnggelpjjmmaaGreatDoor
open Go.ChangeShapes Go.WideShapes Go.ChangeAt Go.RowKit
/-- An array of bools that reads as a table holds the table, cell for cell. -/
theorem cells_of_bools {H : Type} {enc : TypeId × Value → H} {P : Program} {w : World} {base : Nat} {sp : Nat → Bool} {held : Bool} {fuel : Nat} {t e : TypeId} {n : Nat} {cs : List Value} {zs : List Bool} {p : List MemPlace}
    (ht : P.underlying t = some (.array n e)) (he : P.underlying e = some .bool) (hce : P.cellsOf e = 1) (hct : P.cellsOf t = n)
    (h : DataW.trod enc P w base sp held fuel t cs = some (.agg (zs.map fun z => .lit (.bool z)), p)) : cs = zs.map fun z => Value.bool z := by
  cases fuel with
  | zero => simp [DataW.trod] at h
  | succ fuel =>
    simp only [DataW.trod, ht, hce, hct, Nat.mul_one] at h
    split at h
    · rename_i hl
      obtain ⟨xs, hm, hx⟩ := Option.map_eq_some_iff.1 h
      have hxs : xs.map (·.1) = zs.map fun z => (DataW.lit (.bool z) : DataW H) := by
        have := congrArg Prod.fst hx
        simpa using this
      have hxl : xs.length = n := by simpa using Lib.mapM_length hm
      have hzl : zs.length = n := by
        have := congrArg List.length hxs
        simp at this
        omega
      apply List.ext_getElem?
      intro i
      by_cases hi : i < n
      · obtain ⟨b, hb, hf⟩ := Lib.mapM_at hm i i (by simp [hi])
        obtain ⟨z, hc, rfl⟩ := DataW.trod_bool he hf
        have h1 : cs[i]? = some (.bool z) := by
          have := congrArg (·[0]?) hc
          simpa [List.getElem?_take, List.getElem?_drop] using this
        have h2 : (xs.map (·.1))[i]? = some (DataW.lit (.bool z) : DataW H) := by simp [hb]
        rw [hxs] at h2
        simp only [List.getElem?_map, Option.map_eq_some_iff, DataW.lit.injEq, Lit.bool.injEq] at h2
        obtain ⟨z', hz', rfl⟩ := h2
        simp [h1, hz']
      · rw [List.getElem?_eq_none (by omega), List.getElem?_eq_none (by simp; omega)]
    · cases h
theorem setCells : Tryz.prog.cellsOf 123 = 128 := by kernel_rfl
theorem boolCells : Tryz.prog.cellsOf 4 = 1 := by kernel_rfl
theorem setNamed : Tryz.prog.globalNamed "loop.example/g00665/impl.wordBytes" = some 4 := by kernel_rfl
theorem setType : (Tryz.prog.globals[4]?).map (·.type) = some 123 := by kernel_rfl
theorem laidTab {H : Type} : (Rows.laid_loop_example_g00665_impl_wordBytes : DataW H) = .agg (wordTab.map fun z => .lit (.bool z)) := by kernel_rfl
/-- The table lies in memory. -/
def SetIs (w : World) : Prop := ∃ cs tt fr, w.heap[4]? = some (.cells cs tt fr) ∧ cs.size = 128 ∧ ∀ i, i < 128 → cs[i]? = some (.bool (wordI (i : Int)))
theorem setIs_of {w : World} {rest : List (String × DataW Unit)} (h : laidMet Tryz.prog (("loop.example/g00665/impl.wordBytes", Rows.laid_loop_example_g00665_impl_wordBytes) :: rest) w) : SetIs w := by
  obtain ⟨ps, ⟨g', t', cs, fuel, p, q, hg', ht', hvar, hd, _, _⟩, _⟩ := h
  obtain rfl := Option.some.inj (setNamed.symm.trans hg')
  obtain rfl := Option.some.inj (setType.symm.trans ht')
  rw [laidTab] at hd
  have hcs := cells_of_bools Tryz.underlying123 Tryz.underlying4 boolCells setCells hd
  unfold World.var? at hvar
  rw [setNamed] at hvar
  simp only [Option.bind_some] at hvar
  cases hb : w.heap[4]? with
  | none => rw [hb] at hvar; cases hvar
  | some o =>
    rw [hb] at hvar
    cases o with
    | cells c tt fr =>
      simp only [Option.some.injEq] at hvar
      subst hvar
      have hl : c.toList.length = 128 := by rw [hcs, List.length_map]; exact wordTab_len
      refine ⟨c, tt, fr, hb, by simpa using hl, fun i hi => ?_⟩
      rw [← Array.getElem?_toList, hcs, List.getElem?_map]
      have hi2 : i < wordTab.length := by rw [wordTab_len]; exact hi
      rw [List.getElem?_eq_getElem hi2]
      simp [wordI, hi2]
    | map _ _ => cases hvar
    | _ => cases hvar
theorem SetIs.below {w w' : World} (h : SetIs w) (hb : Below w.heap.size w w') : SetIs w' := by
  obtain ⟨cs, tt, fr, hg, h1, h2⟩ := h
  refine ⟨cs, tt, fr, ?_, h1, h2⟩
  rw [hb.block 4 (Array.getElem?_eq_some_iff.1 hg).1, hg]
theorem implIsWord_set (s : ByteArray) (w : World) (h : SetIs w) :
    Calls Tryz.prog 59 #[.string s] w fun e w' => e = .returned (.bool (wordS s)) ∧ Below w.heap.size w w' := by
  obtain ⟨cs, tt, fr, hg, h1, h2⟩ := h
  exact implIsWord_any s w cs tt fr hg h1 h2
end Go.Proofs.YtonnggelpjjmmaaGreatDoor
/-
  What TrimText and its model answer; the law of TrimText out of them.
-/
namespace Go.Proofs.YtonnggelpjjmmaaGreatDoor
open Go.ChangeShapes Go.WideShapes Go.ChangeAt Go.RowKit
theorem trimT_size (s : ByteArray) : (trimT s).size ≤ s.size := by
  have h : (Lib.trimS s.data.toList [32, 9]).length ≤ s.data.toList.length := by
    unfold Lib.trimS Lib.trimLeftS Lib.trimRightS
    refine Nat.le_trans (List.dropWhile_sublist _).length_le ?_
    rw [List.length_reverse]
    refine Nat.le_trans (List.dropWhile_sublist _).length_le ?_
    rw [List.length_reverse]
    exact Nat.le_refl _
  have e : (trimT s).size = (Lib.trimS s.data.toList [32, 9]).length := by simp [trimT, ByteArray.size]
  rw [e]
  simpa using h
theorem trim_lib (s : ByteArray) (w : World) (hs : s.size ≤ 1000) :
    Calls Tryz.prog 123 #[.string s, .string ⟨#[32, 9]⟩] w fun e w' => e = .returned (.string (trimT s)) ∧ Below w.heap.size w w' :=
  Any.strings_Trim_laid Tryz.lays160 (by kernel_rfl) s ⟨#[32, 9]⟩ w (by omega) (by decide) (ascii_of_all (by decide))
theorem trim_big (s : ByteArray) (w : World) (hs : s.size ≤ 1048576) :
    Calls Tryz.prog 123 #[.string s, .string ⟨#[32, 9]⟩] w fun e w' => e = .returned (.string (trimT s)) ∧ Below w.heap.size w w' :=
  Any.strings_Trim_laid Tryz.lays160 (by kernel_rfl) s ⟨#[32, 9]⟩ w (by omega) (by decide) (ascii_of_all (by decide))
theorem clone_lib (s : ByteArray) (w : World) (hs : s.size ≤ 1000) :
    Calls Tryz.prog 130 #[.string s] w fun e w' => e = .returned (.string s) ∧ Below w.heap.size w w' :=
  Any.stringslite_Clone Tryz.laysM316 s w (by omega)
set_option maxHeartbeats 400000 in
theorem clone_any (s : ByteArray) (w : World) (hs : s.size ≤ 1000) :
    Calls Tryz.prog 96 #[.string s] w fun e w' => e = .returned (.string s) ∧ Below w.heap.size w w' := by
  go_enter Tryz.func96, Tryz.ntmps96
  go_wp2_with fail
  refine (clone_lib s _ hs).mono ?_
  rintro e w1 ⟨rfl, hb⟩
  go_wp2
  go_ret
  exact ⟨rfl, hb⟩
end Go.Proofs.YtonnggelpjjmmaaGreatDoor
/-
  What lineFault and HeadersFault answer.
-/
namespace Go.Proofs.YtonnggelpjjmmaaGreatDoor
open Go.ChangeShapes Go.WideShapes Go.ChangeAt Go.RowKit Go.Sort
theorem hdr_room {w w1 : World} {n v : ByteArray} {t : TypeId} (hb : Below (w.alloc (.cells #[.string n, .string v] t)).heap.size (w.alloc (.cells #[.string n, .string v] t)) w1) :
    w.heap.size < w1.heap.size ∧ w1.cell? ⟨w.heap.size, 0, none⟩ = some (.string n) ∧ w1.cell? ⟨w.heap.size, 1, none⟩ = some (.string v) ∧ Below w.heap.size w w1 := by
  rw [World.size_alloc] at hb
  have hz := hb.size
  simp only [World.size_alloc] at hz
  exact ⟨hz, by rw [hb.cell (p := ⟨w.heap.size, 0, none⟩) (Nat.lt_succ_self _)]; simp, by rw [hb.cell (p := ⟨w.heap.size, 1, none⟩) (Nat.lt_succ_self _)]; simp, ((Below.refl _ _).alloc (Nat.le_refl _) _).trans (hb.mono (Nat.le_succ _))⟩
theorem hkeep {W W' : World} (hb : Below W.heap.size W W') {p : Addr} {v : Value} (h : W.cell? p = some v) : W'.cell? p = some v := by
  rw [hb.cell (block_lt_of_cell h)]; exact h
set_option maxHeartbeats 2000000 in
theorem implLine_any (r : Hdr) (w : World) (hset : SetIs w) :
    Calls Tryz.prog 110 #[.agg #[.string r.name, .string r.value]] w fun e w' => e = .returned (.int .i64 (faultH r)) ∧ Below w.heap.size w w' := by
  obtain ⟨n, v⟩ := r
  simp only
  have HW : Hid (Calls Tryz.prog 59 #[.string n] (w.alloc (.cells #[.string n, .string v] 58)) fun e w' => e = .returned (.bool (wordS n)) ∧ Below (w.alloc (.cells #[.string n, .string v] 58)).heap.size (w.alloc (.cells #[.string n, .string v] 58)) w') := implIsWord_set n _ (hset.below ((Below.refl _ _).alloc (Nat.le_refl _) _))
  clear hset
  cases hw : wordS n
  · have HE : Hid (faultH ⟨n, v⟩ = 5) := by show _ = _; simp [faultH, hw]
    rw [hw] at HW
    clear hw
    go_enter Tryz.func110, Tryz.ntmps110
    go_wp2_with fail
    refine HW.out.mono ?_
    rintro e w1 ⟨rfl, hb1⟩
    obtain ⟨hz1, p0, p1, kb⟩ := hdr_room hb1
    have KB : Hid (Below w.heap.size w w1) := kb
    clear hb1 kb
    go_wp2_with fail
    go_ret
    exact ⟨ret_int HE.out.symm, KB.out⟩
  rw [hw] at HW
  by_cases hbig : 200 < v.size
  · have HE : Hid (faultH ⟨n, v⟩ = 2) := by show _ = _; simp only [faultH, hw]; rw [if_neg (by simp), if_pos hbig]
    have g : (200 : Int) < v.size := by omega
    clear hw
    go_enter Tryz.func110, Tryz.ntmps110
    go_wp2_with fail
    refine HW.out.mono ?_
    rintro e w1 ⟨rfl, hb1⟩
    obtain ⟨hz1, p0, p1, kb⟩ := hdr_room hb1
    have KB : Hid (Below w.heap.size w w1) := kb
    clear hb1 kb
    go_wp2_with fail
    go_ret
    exact ⟨ret_int HE.out.symm, KB.out⟩
  have g : ¬ (200 : Int) < v.size := by omega
  have HP : Hid (∀ w, Calls Tryz.prog 137 #[.string v] w fun e w' => e = .returned (.bool (plainL v.data.toList)) ∧ Below w.heap.size w w') := fun w => (allPlain_any v w (by omega)).mono fun _ _ ⟨h1, h2⟩ => ⟨h1, h2 ▸ Below.refl _ _⟩
  have HT : Hid (∀ w, Calls Tryz.prog 123 #[.string v, .string ⟨#[32, 9]⟩] w fun e w' => e = .returned (.string (trimT v)) ∧ Below w.heap.size w w') := fun w => trim_big v w (by omega)
  cases hp : plainL v.data.toList
  · have HE : Hid (faultH ⟨n, v⟩ = 5) := by show _ = _; simp only [faultH, hw]; rw [if_neg (by simp), if_neg hbig, if_pos hp]
    rw [hp] at HP
    clear hw hp hbig
    go_enter Tryz.func110, Tryz.ntmps110
    go_wp2_with fail
    refine HW.out.mono ?_
    rintro e w1 ⟨rfl, hb1⟩
    obtain ⟨hz1, p0, p1, kb⟩ := hdr_room hb1
    have KB : Hid (Below w.heap.size w w1) := kb
    clear hb1 kb
    go_wp2_with fail
    have q1 := cell_regrown p1
    have cP : ∀ d' os, Calls Tryz.prog 137 #[.string v] (grow (redrawn w1 d') os) fun e w'' => e = .returned (.bool false) ∧ ∃ p : Regrown, w'' = grow (redrawn w1 p.d) p.os := fun d' os => Calls.regrown_of (HP.out _)
    refine wp_region_quiet_below (by kernel_rfl) (by kernel_rfl) ?_
    repeat (go_big_quiet_step (first | (go_at_call 137; exact cP _ _)))
    refine wpQuiet_nil ?_
    intro W2 hW2
    have hbW2 : Below w1.heap.size w1 W2 := by
      obtain ⟨⟨d, os⟩, rfl⟩ := hW2
      exact below_regrown w1 d os
    have KB2 : Hid (Below w.heap.size w W2) := KB.out.trans (hbW2.mono KB.out.size)
    clear hW2 hbW2 cP q1 p0 p1 KB
    go_wp2_with fail
    go_ret
    exact ⟨ret_int HE.out.symm, KB2.out⟩
  rw [hp] at HP
  by_cases ht : trimT v = v
  · have HE : Hid (faultH ⟨n, v⟩ = 0) := by show _ = _; simp only [faultH, hw]; rw [if_neg (by simp), if_neg hbig, if_neg (by simp [hp]), if_pos ht]
    rw [ht] at HT
    clear hw hp hbig ht
    go_enter Tryz.func110, Tryz.ntmps110
    go_wp2_with fail
    refine HW.out.mono ?_
    rintro e w1 ⟨rfl, hb1⟩
    obtain ⟨hz1, p0, p1, kb⟩ := hdr_room hb1
    have KB : Hid (Below w.heap.size w w1) := kb
    clear hb1 kb
    go_wp2_with fail
    have q1 := cell_regrown p1
    have cP : ∀ d' os, Calls Tryz.prog 137 #[.string v] (grow (redrawn w1 d') os) fun e w'' => e = .returned (.bool true) ∧ ∃ p : Regrown, w'' = grow (redrawn w1 p.d) p.os := fun d' os => Calls.regrown_of (HP.out _)
    have cT : ∀ d' os, Calls Tryz.prog 123 #[.string v, .string ⟨#[32, 9]⟩] (grow (redrawn w1 d') os) fun e w'' => e = .returned (.string v) ∧ ∃ p : Regrown, w'' = grow (redrawn w1 p.d) p.os := fun d' os => Calls.regrown_of (HT.out _)
    refine wp_region_quiet_below (by kernel_rfl) (by kernel_rfl) ?_
    repeat (go_big_quiet_step (first | (go_at_call 137; exact cP _ _) | (go_at_call 123; exact cT _ _)))
    refine wpQuiet_nil ?_
    intro W2 hW2
    have hbW2 : Below w1.heap.size w1 W2 := by
      obtain ⟨⟨d, os⟩, rfl⟩ := hW2
      exact below_regrown w1 d os
    have KB2 : Hid (Below w.heap.size w W2) := KB.out.trans (hbW2.mono KB.out.size)
    clear hW2 hbW2 cP cT q1 p0 p1 KB
    go_wp2_with fail
    go_ret
    exact ⟨ret_int HE.out.symm, KB2.out⟩
  · have HE : Hid (faultH ⟨n, v⟩ = 5) := by show _ = _; simp only [faultH, hw]; rw [if_neg (by simp), if_neg hbig, if_neg (by simp [hp]), if_neg ht]
    have hq := hstr_ne ht
    generalize trimT v = t at *
    clear hw hp hbig ht
    go_enter Tryz.func110, Tryz.ntmps110
    go_wp2_with fail
    refine HW.out.mono ?_
    rintro e w1 ⟨rfl, hb1⟩
    obtain ⟨hz1, p0, p1, kb⟩ := hdr_room hb1
    have KB : Hid (Below w.heap.size w w1) := kb
    clear hb1 kb
    go_wp2_with fail
    have q1 := cell_regrown p1
    have cP : ∀ d' os, Calls Tryz.prog 137 #[.string v] (grow (redrawn w1 d') os) fun e w'' => e = .returned (.bool true) ∧ ∃ p : Regrown, w'' = grow (redrawn w1 p.d) p.os := fun d' os => Calls.regrown_of (HP.out _)
    have cT : ∀ d' os, Calls Tryz.prog 123 #[.string v, .string ⟨#[32, 9]⟩] (grow (redrawn w1 d') os) fun e w'' => e = .returned (.string t) ∧ ∃ p : Regrown, w'' = grow (redrawn w1 p.d) p.os := fun d' os => Calls.regrown_of (HT.out _)
    refine wp_region_quiet_below (by kernel_rfl) (by kernel_rfl) ?_
    repeat (go_big_quiet_step (first | (go_at_call 137; exact cP _ _) | (go_at_call 123; exact cT _ _)))
    refine wpQuiet_nil ?_
    intro W2 hW2
    have hbW2 : Below w1.heap.size w1 W2 := by
      obtain ⟨⟨d, os⟩, rfl⟩ := hW2
      exact below_regrown w1 d os
    have KB2 : Hid (Below w.heap.size w W2) := KB.out.trans (hbW2.mono KB.out.size)
    clear hW2 hbW2 cP cT q1 p0 p1 KB
    go_wp2_with fail
    go_ret
    exact ⟨ret_int HE.out.symm, KB2.out⟩
set_option maxRecDepth 100000 in
set_option maxHeartbeats 4000000 in
theorem implHFault_any (w : World) (a : Option Addr) (cap : Nat) (l : List Hdr) (hl : l.length ≤ 1048576) (hset : SetIs w) (hi : HdsIn w a l) :
    Calls Tryz.prog 69 #[.slice a l.length cap] w fun e w' => e = .returned (.int .i64 (headsC l)) ∧ Below w.heap.size w w' := by
  by_cases h20 : 20 < l.length
  · have HE : Hid (headsC l = 2) := headsC_many h20
    have g : (20 : Int) < (l.length : Int) := by omega
    clear hi hset
    generalize l.length = n at *
    go_enter Tryz.func69, Tryz.ntmps69
    go_wp2_with fail
    go_ret
    exact ⟨ret_int HE.out.symm, Below.refl _ _⟩
  have HC : Hid (headsC l = faultHL l) := headsC_few h20
  have HI : Hid (HdsIn w a l) := hi
  have HS : Hid (SetIs w) := hset
  clear hi hset
  generalize hn : l.length = n at *
  have HN : Hid (l.length = n) := hn
  clear hn
  have g : ¬ (20 : Int) < (n : Int) := by omega
  go_enter Tryz.func69, Tryz.ntmps69
  go_wp2_with fail
  go_loopw [11] (fun i wr => ∃ k : Nat, k ≤ n ∧ i = .int .i64 k ∧ faultHL l = faultHL (l.drop k) ∧ Below w.heap.size w wr) (fun i _ => n - (intOf i).toNat)
  case atStart => exact ⟨0, Nat.zero_le _, rfl, rfl, Below.refl _ _⟩
  case round =>
    obtain ⟨k, hk, rfl, hf, hb⟩ := hrel
    have HF : Hid (faultHL l = faultHL (l.drop k)) := hf
    clear hf
    by_cases hlt : k < n
    · obtain ⟨r, hr⟩ : ∃ r, l[k]? = some r := ⟨l[k]'(by have := HN.out; omega), List.getElem?_eq_getElem _⟩
      rcases HI.out with h | ⟨b, off, rfl, hat⟩
      · subst h; simp at hr
      obtain ⟨p1, p3⟩ := (hat.keep hb) k r hr
      have HD : Hid (l.drop k = r :: l.drop (k + 1)) := drop_hdr l k r hr
      have gk : (k : Int) < n := by omega
      have SF : Hid (∀ W, Below wr.heap.size wr W → Calls Tryz.prog 110 #[.agg #[.string r.name, .string r.value]] W fun e w' => e = .returned (.int .i64 (faultH r)) ∧ Below W.heap.size W w') := fun W h => implLine_any r W ((HS.out.below hb).below h)
      clear hr hat HI
      by_cases hfr : faultH r = 0
      · have HX : Hid (faultHL l = faultHL (l.drop (k + 1))) := by show _ = _; rw [HF.out, HD.out, faultHL_ok hfr]
        rw [hfr] at SF
        clear hfr HD HF
        obtain ⟨rn, rv⟩ := r
        simp only at p1 p3 SF
        go_wp2_with fail
        refine (SF.out _ ((Below.refl _ _).alloc (Nat.le_refl _) _)).mono ?_
        rintro e w2 ⟨rfl, hb2⟩
        obtain ⟨_, _, _, kb⟩ := hdr_room hb2
        have hbb := hb.trans (kb.mono hb.size)
        clear hb2 hb kb
        go_wp2_with fail
        go_roundw
        case rel => exact ⟨k + 1, by omega, by go_num, HX.out, hbb⟩
        case measure => simp [intOf]; omega
      · have HX : Hid (headsC l = faultH r) := by show _ = _; rw [HC.out, HF.out, HD.out, faultHL_bad hfr]
        clear HD HF HC
        obtain ⟨rn, rv⟩ := r
        simp only at p1 p3 SF
        generalize faultH ⟨rn, rv⟩ = fr at *
        go_wp2_with fail
        refine (SF.out _ ((Below.refl _ _).alloc (Nat.le_refl _) _)).mono ?_
        rintro e w2 ⟨rfl, hb2⟩
        obtain ⟨_, _, _, kb⟩ := hdr_room hb2
        have hbb := hb.trans (kb.mono hb.size)
        clear hb2 hb kb
        go_wp2_with fail
        go_ret
        exact ⟨ret_int HX.out.symm, hbb⟩
    · have HX : Hid (headsC l = 0) := by
        show _ = _
        rw [HC.out, HF.out, List.drop_of_length_le (by have := HN.out; omega)]
        rfl
      clear HF HC
      go_wp2_with fail
      go_ret
      exact ⟨ret_int HX.out.symm, hb⟩
end Go.Proofs.YtonnggelpjjmmaaGreatDoor
/-
  What LowerText answers where the text is not too long.
-/
namespace Go.Proofs.YtonnggelpjjmmaaGreatDoor
open Go.ChangeShapes Go.WideShapes Go.ChangeAt Go.RowKit
set_option maxHeartbeats 1000000 in
theorem implLower_any (s : ByteArray) (w : World) (hs : s.size ≤ 1000) :
    Calls Tryz.prog 28 #[.string s] w fun e w' => e = .returned (.agg #[.int .i64 0, .string (lowS s)]) ∧ Below w.heap.size w w' := by
  obtain ⟨C, cap, hcv, hrow⟩ : ∃ C cap, (convert 9 22 (.string s)).run Tryz.prog (w.alloc (.cells #[.int .i64 0, .string ⟨#[]⟩] 50)) = .ok (.slice (some ⟨w.heap.size + 1, 0, none⟩) s.size cap) ((w.alloc (.cells #[.int .i64 0, .string ⟨#[]⟩] 50)).drew.alloc (.cells C 5 (C.size, C.size + 1))) ∧ BRow ((w.alloc (.cells #[.int .i64 0, .string ⟨#[]⟩] 50)).alloc (.cells C 5 (C.size, C.size + 1))) (w.heap.size + 1) s.data.toList := by
    have h1 := run_bytes_of_string (P := Tryz.prog) (w.alloc (.cells #[.int .i64 0, .string ⟨#[]⟩] 50)) 9 22 5 s Tryz.underlying9 Tryz.underlying22 Tryz.underlying5
    have h2 := fun cap => BRow.made (w.alloc (.cells #[.int .i64 0, .string ⟨#[]⟩] 50)) s cap _ rfl
    simp only [World.size_alloc] at h1 h2
    exact ⟨_, _, h1, h2 _⟩
  have hns : ¬ (1000 : Int) < s.size := by omega
  go_enter Tryz.func28, Tryz.ntmps28
  go_wp2
  go_loopw [14] (fun i wr => ∃ k : Nat, k ≤ s.size ∧ i = .int .i64 k ∧ BRow wr (w.heap.size + 1) (lowK s.data.toList k) ∧ Below (w.heap.size + 1) (w.alloc (.cells #[.int .i64 0, .string ⟨#[]⟩] 50)) wr) (fun i _ => s.size - (intOf i).toNat)
  case atStart => exact ⟨0, Nat.zero_le _, rfl, by rw [lowK_zero]; exact ⟨hrow.cell, hrow.free⟩, ((Below.refl _ _).alloc (by simp) _).drew⟩
  case round =>
    obtain ⟨k, hk, rfl, hr, hb⟩ := hrel
    clear hcv hrow
    have hlen := lowK_length s.data.toList k
    by_cases hlt : k < s.size
    · have hl : k < s.data.toList.length := by simpa using hlt
      have hl2 : k < (lowK s.data.toList k).length := by omega
      have hc := hr.cell k hl2
      have hf := hr.free k hl2
      rw [lowK_at _ _ hl hl2] at hc
      have Y : Hid (65 ≤ (s.data.toList[k].toNat : Int) ∧ (s.data.toList[k].toNat : Int) ≤ 90 → BRow (wr.setCell ⟨w.heap.size + 1, k, none⟩ (.int .u8 ((s.data.toList[k].toNat : Int) + 32))) (w.heap.size + 1) (lowK s.data.toList (k + 1))) := by
        intro ⟨u1, u2⟩
        have := hr.set k (lowU s.data.toList[k])
        rw [lowU_yes _ u1 u2] at this
        rw [lowK_succ _ _ hl]
        exact this
      have N : Hid (¬ (65 ≤ (s.data.toList[k].toNat : Int) ∧ (s.data.toList[k].toNat : Int) ≤ 90) → BRow wr (w.heap.size + 1) (lowK s.data.toList (k + 1))) := by
        intro u
        rw [lowK_keep _ _ hl u]
        exact hr
      generalize s.data.toList[k] = x at *
      clear hr hlen hl2 hl
      by_cases hU : 65 ≤ (x.toNat : Int) ∧ (x.toNat : Int) ≤ 90
      · have R : Hid (BRow (wr.setCell ⟨w.heap.size + 1, k, none⟩ (.int .u8 ((x.toNat : Int) - 65 + 97))) (w.heap.size + 1) (lowK s.data.toList (k + 1))) := by
          have := Y.out hU
          rw [show (x.toNat : Int) + 32 = (x.toNat : Int) - 65 + 97 from by omega] at this
          exact this
        obtain ⟨u1, u2⟩ := hU
        have d2 : decide ((x.toNat : Int) ≤ 90) = true := by simpa using u2
        clear Y N
        go_wp2
        go_roundw
        case rel => exact ⟨k + 1, by omega, by go_num, R.out, hb.setCell (Nat.le_refl _) _⟩
        case measure => simp [intOf]; omega
      · have R : Hid (BRow wr (w.heap.size + 1) (lowK s.data.toList (k + 1))) := N.out hU
        clear Y N
        by_cases u1 : 65 ≤ (x.toNat : Int)
        · have u2 : 90 < (x.toNat : Int) := by omega
          have d2 : decide ((x.toNat : Int) ≤ 90) = false := by simp; omega
          clear hU
          go_wp2
          go_roundw
          case rel => exact ⟨k + 1, by omega, by go_num, R.out, hb⟩
          case measure => simp [intOf]; omega
        · clear hU
          go_wp2
          go_roundw
          case rel => exact ⟨k + 1, by omega, by go_num, R.out, hb⟩
          case measure => simp [intOf]; omega
    · have e : lowK s.data.toList k = s.data.toList.map lowU := lowK_all _ _ (by simp; omega)
      rw [e] at hr
      have hback := hr.back (P := Tryz.prog) 22 9 5 s.size cap (by simp) Tryz.underlying22 Tryz.underlying5 Tryz.underlying9
      have HL : Hid ((⟨(s.data.toList.map lowU).toArray⟩ : ByteArray) = lowS s) := rfl
      generalize (⟨(s.data.toList.map lowU).toArray⟩ : ByteArray) = r at *
      clear hr e hlen
      have p0 : wr.cell? ⟨w.heap.size, 0, none⟩ = some (.int .i64 0) := by rw [hb.cell (p := ⟨w.heap.size, 0, none⟩) (Nat.lt_succ_self _)]; simp
      have p1 : wr.cell? ⟨w.heap.size, 1, none⟩ = some (.string ⟨#[]⟩) := by rw [hb.cell (p := ⟨w.heap.size, 1, none⟩) (Nat.lt_succ_self _)]; simp
      have f0 : wr.frozen? ⟨w.heap.size, 0, none⟩ = false := by rw [hb.frozen (p := ⟨w.heap.size, 0, none⟩) (Nat.lt_succ_self _)]; simp
      have f1 : wr.frozen? ⟨w.heap.size, 1, none⟩ = false := by rw [hb.frozen (p := ⟨w.heap.size, 1, none⟩) (Nat.lt_succ_self _)]; simp
      obtain ⟨q0, q1⟩ := two_set (v0 := .int .i64 0) (v1 := .string r) p0 p1
      go_wp2
      have kb : Below w.heap.size w wr := ((Below.refl _ _).alloc (Nat.le_refl _) _).trans (hb.mono (Nat.le_succ _))
      exact bodyPost_ret (v := .agg #[.int .i64 0, .string r]) (by simp [results, Tryz.results28, go_sem, q0, q1]) rfl ⟨by rw [HL.out], (kb.setCell (Nat.le_refl _) _).setCell (Nat.le_refl _) _⟩
set_option maxHeartbeats 400000 in
theorem implLower_long (s : ByteArray) (w : World) (h : 1000 < s.size) :
    Calls Tryz.prog 28 #[.string s] w fun e w' => e = .returned (.agg #[.int .i64 2, .string ⟨#[]⟩]) ∧ Below w.heap.size w w' := by
  have hh : (1000 : Int) < s.size := by omega
  go_enter Tryz.func28, Tryz.ntmps28
  go_wp2
  exact bodyPost_ret (v := .agg #[.int .i64 2, .string ⟨#[]⟩]) (by simp [results, Tryz.results28, go_sem]) rfl ⟨rfl, (Below.refl _ _).alloc (Nat.le_refl _) _⟩
end Go.Proofs.YtonnggelpjjmmaaGreatDoor
/-
  Fields of results; what lies in memory behind a call.
-/
namespace Go.Proofs.YtonnggelpjjmmaaGreatDoor
open Go.ChangeShapes Go.WideShapes Go.ChangeAt Go.RowKit Go.Sort
theorem f_field_code (c : Int) (s : ByteArray) (w : World) : (Instr.field 50 (.agg #[.int .i64 c, .string s]) 0).run Tryz.prog w = .ok (.int .i64 c) w := by kernel_rfl
theorem f_field_text (c : Int) (s : ByteArray) (w : World) : (Instr.field 50 (.agg #[.int .i64 c, .string s]) 1).run Tryz.prog w = .ok (.string s) w := by kernel_rfl
theorem f_keep {W W' : World} (hb : Below W.heap.size W W') {p : Addr} {v : Value} (h : W.cell? p = some v) : W'.cell? p = some v := by
  rw [hb.cell (block_lt_of_cell h)]; exact h
theorem f_keepA {W : World} {p : Addr} {v : Value} (o : Obj) (h : W.cell? p = some v) : (W.alloc o).cell? p = some v := f_keep ((Below.refl _ _).alloc (Nat.le_refl _) _) h
end Go.Proofs.YtonnggelpjjmmaaGreatDoor
/-
  A map of texts to places, in memory: what is asked of it, what is laid into it, what goes from it.
-/
namespace Go.Proofs.YtonnggelpjjmmaaGreatDoor
open Go.ChangeShapes Go.WideShapes Go.ChangeAt Go.RowKit Go.Maps
open Go.WideMaps (keyOf_string_mk)
theorem isKeyL (x : ByteArray) : WideAt.IsKeyLit (.string x.data.toList) := trivial
theorem hkeyed : Keyed Tryz.prog 9 := string_keyed Tryz.underlying9
theorem hzeroInt (w : World) : (zeroValue 3).run Tryz.prog w = .ok (.int .i64 0) w := by kernel_rfl
def keyL (x : ByteArray) : Lit := .string x.data.toList
theorem keyL_ne {x y : ByteArray} (h : x ≠ y) : keyL x ≠ keyL y := by
  intro e
  unfold keyL at e
  simp only [Lit.string.injEq] at e
  exact h (ByteArray.ext (Array.ext' e))
/-- Block B is a map of at most n entries that has p's places at p's names. -/
def NamesMap (w : World) (B n : Nat) (p : ByteArray → Option Nat) : Prop :=
  ∃ D : DataW Unit, w.ownsMap Tryz.prog 9 (plainElem Tryz.prog 3) B n D ∧ ∀ x : ByteArray, Maps.has D (keyL x) = (p x).isSome ∧ ∀ i, p x = some i → D.atKey (keyL x) (.lit (.int .i64 0)) = .lit (.int .i64 (i : Int))
theorem NamesMap.lt {w : World} {B n : Nat} {p : ByteArray → Option Nat} (h : NamesMap w B n p) : B < w.heap.size := by
  obtain ⟨D, h, _⟩ := h
  exact h.lt
theorem NamesMap.below {w w' : World} {B n : Nat} {p : ByteArray → Option Nat} (h : NamesMap w B n p) (hb : Below w.heap.size w w') : NamesMap w' B n p := by
  have hl := h.lt
  obtain ⟨D, ⟨es, clock, hh, r⟩, h2⟩ := h
  exact ⟨D, ⟨es, clock, by rw [hb.block B hl]; exact hh, r⟩, h2⟩
theorem NamesMap.setCell {w : World} {B n : Nat} {p : ByteArray → Option Nat} (h : NamesMap w B n p) {a : Addr} (ha : B ≠ a.block) (u : Value) : NamesMap (w.setCell a u) B n p := by
  obtain ⟨D, h, h2⟩ := h
  exact ⟨D, h.setCell ha u, h2⟩
theorem NamesMap.made (w : World) : NamesMap (w.alloc (.map #[] 0)) w.heap.size 0 (fun _ => none) :=
  ⟨.map [], World.ownsMap_made w _ _ _, fun x => ⟨rfl, fun i h => by cases h⟩⟩
theorem NamesMap.of {w : World} {B n : Nat} {p q : ByteArray → Option Nat} (h : NamesMap w B n p) (e : ∀ x, p x = q x) : NamesMap w B n q := by
  obtain rfl : p = q := funext e
  exact h
theorem turned_below {w w' : World} {B base : Nat} (h : w.mapTurned w' B) (hb : base ≤ B) : Below base w w' :=
  (Below.refl base w).grown h.grown (by
    obtain ⟨es, clock, es', clock', hh, rfl⟩ := h
    have := (Array.getElem?_eq_some_iff.1 hh).1
    omega) (fun q hq => by cases hq; exact hb)
section
variable {ops : Array Oper} {rest : List Oper} {o : Oper} {a : Act} {Q : Exit → Act → World → Prop}
theorem wpList_look_none (w : World) (hg : o.guard = none) (m x : Operand) (hop : o.op = Op.lookup 126 m x true) (B n : Nat) (p : ByteArray → Option Nat)
    (hm : a.eval m = .map (some B)) (hown : NamesMap w B n p) (key : ByteArray) (hx : a.eval x = .string key) (hk : key.size ≤ 1048576) (hp : p key = none)
    (hK : wpList Tryz.prog ops Q rest (a.put o.dst (.tuple #[.int .i64 0, .bool false])) w) : wpList Tryz.prog ops Q (o :: rest) a w := by
  obtain ⟨D, hD, hat⟩ := hown
  have h1 : Maps.has D (keyL key) = false := by rw [(hat key).1, hp]; rfl
  refine wpList_lookup_own_ok_int w hg m x 126 hop 9 3 .i64 hkeyed Tryz.underlying126 Tryz.underlying3 (hzeroInt w) B n D hm hD _ (keyL key) hx (keyOf_string_mk Tryz.underlying9 (by unfold maxLen; omega)) ?_
  intro c hc _
  rw [atKey_of_not_has h1] at hc
  obtain rfl : c = 0 := by simpa using hc.symm
  rw [h1]
  exact hK
theorem wpList_look_some (w : World) (hg : o.guard = none) (m x : Operand) (hop : o.op = Op.lookup 126 m x true) (B n : Nat) (p : ByteArray → Option Nat)
    (hm : a.eval m = .map (some B)) (hown : NamesMap w B n p) (key : ByteArray) (hx : a.eval x = .string key) (hk : key.size ≤ 1048576) (i : Nat) (hp : p key = some i)
    (hK : wpList Tryz.prog ops Q rest (a.put o.dst (.tuple #[.int .i64 (i : Int), .bool true])) w) : wpList Tryz.prog ops Q (o :: rest) a w := by
  obtain ⟨D, hD, hat⟩ := hown
  have h1 : Maps.has D (keyL key) = true := by rw [(hat key).1, hp]; rfl
  refine wpList_lookup_own_ok_int w hg m x 126 hop 9 3 .i64 hkeyed Tryz.underlying126 Tryz.underlying3 (hzeroInt w) B n D hm hD _ (keyL key) hx (keyOf_string_mk Tryz.underlying9 (by unfold maxLen; omega)) ?_
  intro c hc _
  rw [(hat key).2 i hp] at hc
  obtain rfl : c = (i : Int) := by simpa using hc.symm
  rw [h1]
  exact hK
theorem wpList_put (w : World) (hg : o.guard = none) (m x v : Operand) (hop : o.op = Op.mapUpdate 126 m x v) (B n : Nat) (p : ByteArray → Option Nat)
    (hm : a.eval m = .map (some B)) (hown : NamesMap w B n p) (hn : n ≤ 1048576) (key : ByteArray) (hx : a.eval x = .string key) (hk : key.size ≤ 1048576) (i : Nat) (hi : i ≤ 1048576) (hv : a.eval v = .int .i64 (i : Int)) (base : Nat) (hbase : base ≤ B)
    (hK : ∀ w', NamesMap w' B (n + 1) (fun y => if y = key then some i else p y) → Below base w w' → wpList Tryz.prog ops Q rest (a.put o.dst undef) w') : wpList Tryz.prog ops Q (o :: rest) a w := by
  obtain ⟨D, hD, hat⟩ := hown
  refine wpList_mapUpdate_in w hg m x v 126 hop 9 3 hkeyed Tryz.underlying126 _ B n D hm hD (by unfold maxLen; omega) _ _ (keyL key) hx hv (keyOf_string_mk Tryz.underlying9 (by unfold maxLen; omega)) (.lit (.int .i64 (i : Int))) [] (plainElem_int Tryz.underlying3 (WalkArith.wf_i64 (by omega))) ?_
  intro w' hD' ht
  refine hK w' ⟨_, hD', fun y => ?_⟩ (turned_below ht hbase)
  by_cases e : y = key
  · subst e
    simp only [if_true]
    refine ⟨has_put_same hD.isMap (isKeyL _) _, fun j hj => ?_⟩
    obtain rfl := Option.some.inj hj
    exact atKey_put_same hD.isMap (isKeyL _) _ _
  · simp only [if_neg e]
    rw [has_put_other (keyL_ne e), atKey_put_other (keyL_ne e)]
    exact hat y
theorem wpList_del (w : World) (hg : o.guard = none) (m x : Operand) (hop : o.op = Op.call { callee := Callee.builtin Builtin.delete, args := #[m, x], argTypes := #[126, 9] }) (B n : Nat) (p : ByteArray → Option Nat)
    (hm : a.eval m = .map (some B)) (hown : NamesMap w B n p) (key : ByteArray) (hx : a.eval x = .string key) (hk : key.size ≤ 1048576) (base : Nat) (hbase : base ≤ B)
    (hK : ∀ w', NamesMap w' B n (fun y => if y = key then none else p y) → Below base w w' → wpList Tryz.prog ops Q rest (a.put o.dst (.tuple #[])) w') : wpList Tryz.prog ops Q (o :: rest) a w := by
  obtain ⟨D, hD, hat⟩ := hown
  refine wpList_delete_own w hg m x 126 9 hop 3 hkeyed Tryz.underlying126 _ B n D hm hD _ (keyL key) hx (keyOf_string_mk Tryz.underlying9 (by unfold maxLen; omega)) ?_
  intro w' hD' ht
  refine hK w' ⟨_, hD', fun y => ?_⟩ (turned_below ht hbase)
  by_cases e : y = key
  · subst e
    simp only [if_true]
    exact ⟨has_del_same, fun j hj => by cases hj⟩
  · simp only [if_neg e]
    rw [has_del_other (keyL_ne e), atKey_del_other (keyL_ne e)]
    exact hat y
end
end Go.Proofs.YtonnggelpjjmmaaGreatDoor
/-
  Names that are alike; what is asked ahead by all that look for a name.
-/
namespace Go.Proofs.YtonnggelpjjmmaaGreatDoor
open Go.ChangeShapes Go.WideShapes Go.ChangeAt Go.RowKit Go.Sort
theorem lowS_size (s : ByteArray) : (lowS s).size = s.size := by
  show ((s.data.toList.map lowU).toArray).size = s.data.size
  rw [List.size_toArray, List.length_map, Array.length_toList]
set_option maxHeartbeats 1000000 in
theorem smallName_any (s : ByteArray) (w : World) (hs : s.size ≤ 1000) :
    Calls Tryz.prog 60 #[.string s] w fun e w' => e = .returned (.string (lowS s)) ∧ Below w.heap.size w w' := by
  have HC := implLower_any s w hs
  have hf := f_field_text
  generalize lowS s = q at *
  go_enter Tryz.func60, Tryz.ntmps60
  go_wp2_with fail
  refine HC.mono ?_
  rintro e w1 ⟨rfl, hb⟩
  go_wp2_with fail
  go_ret
  exact ⟨rfl, hb⟩
set_option maxHeartbeats 1000000 in
theorem l4Alike_any (s t : ByteArray) (w : World) (hs : s.size ≤ 1048576) (ht : t.size ≤ 1048576) :
    Calls Tryz.prog 77 #[.string s, .string t] w fun e w' => e = .returned (.bool (decide (lowS s = lowS t))) ∧ Below w.heap.size w w' := by
  have H1 : Hid (∀ w, Calls Tryz.prog 99 #[.string s] w fun e w' => e = .returned (.string (lowS s)) ∧ Below w.heap.size w w') := fun w => l1Lower_any s w hs
  have H2 : Hid (∀ w, Calls Tryz.prog 99 #[.string t] w fun e w' => e = .returned (.string (lowS t)) ∧ Below w.heap.size w w') := fun w => l1Lower_any t w ht
  by_cases he : lowS s = lowS t
  · have HE : Hid (decide (lowS s = lowS t) = true) := by show _ = _; simpa using he
    rw [he] at H1
    clear he
    generalize lowS t = q at *
    go_enter Tryz.func77, Tryz.ntmps77
    go_wp2_with fail
    refine (H1.out _).mono ?_
    rintro e w1 ⟨rfl, hb1⟩
    go_wp2_with fail
    refine (H2.out _).mono ?_
    rintro e w2 ⟨rfl, hb2⟩
    have hbb := hb1.trans (hb2.mono hb1.size)
    clear hb1 hb2
    go_wp2_with fail
    go_ret
    exact ⟨ret_bool HE.out.symm, hbb⟩
  · have HE : Hid (decide (lowS s = lowS t) = false) := by show _ = _; simpa using he
    have hq := hstr_ne he
    clear he
    generalize lowS t = q at *
    generalize lowS s = p at *
    go_enter Tryz.func77, Tryz.ntmps77
    go_wp2_with fail
    refine (H1.out _).mono ?_
    rintro e w1 ⟨rfl, hb1⟩
    go_wp2_with fail
    refine (H2.out _).mono ?_
    rintro e w2 ⟨rfl, hb2⟩
    have hbb := hb1.trans (hb2.mono hb1.size)
    clear hb1 hb2
    go_wp2_with fail
    go_ret
    exact ⟨ret_bool HE.out.symm, hbb⟩
set_option maxHeartbeats 1000000 in
theorem namedFault_any (w : World) (a : Option Addr) (cap : Nat) (l : List Hdr) (name : ByteArray) (hl : l.length ≤ 1048576) (hset : SetIs w) (hi : HdsIn w a l) :
    Calls Tryz.prog 94 #[.slice a l.length cap, .string name] w fun e w' => e = .returned (.int .i64 (askC l name)) ∧ Below w.heap.size w w' := by
  have HF := implHFault_any w a cap l hl hset hi
  have HS : Hid (SetIs w) := hset
  clear hi hset
  by_cases h0 : headsC l = 0
  · rw [h0] at HF
    generalize l.length = n at *
    cases hw : wordS name
    · have HE : Hid (askC l name = 5) := askC_text h0 hw
      have HW : Hid (wordS name = false) := hw
      clear h0 hw
      go_enter Tryz.func94, Tryz.ntmps94
      go_wp2_with fail
      refine HF.mono ?_
      rintro e w1 ⟨rfl, hb1⟩
      go_wp2_with fail
      refine (implIsWord_set name _ (HS.out.below hb1)).mono ?_
      rintro e w2 ⟨rfl, hb2⟩
      rw [HW.out]
      have hbb := hb1.trans (hb2.mono hb1.size)
      clear hb1 hb2
      go_wp2_with fail
      go_ret
      exact ⟨ret_int HE.out.symm, hbb⟩
    · have HE : Hid (askC l name = 0) := askC_word h0 hw
      have HW : Hid (wordS name = true) := hw
      clear h0 hw
      go_enter Tryz.func94, Tryz.ntmps94
      go_wp2_with fail
      refine HF.mono ?_
      rintro e w1 ⟨rfl, hb1⟩
      go_wp2_with fail
      refine (implIsWord_set name _ (HS.out.below hb1)).mono ?_
      rintro e w2 ⟨rfl, hb2⟩
      rw [HW.out]
      have hbb := hb1.trans (hb2.mono hb1.size)
      clear hb1 hb2
      go_wp2_with fail
      go_ret
      exact ⟨ret_int HE.out.symm, hbb⟩
  · have HE : Hid (askC l name = headsC l) := askC_bad h0
    generalize headsC l = fc at *
    generalize l.length = n at *
    go_enter Tryz.func94, Tryz.ntmps94
    go_wp2_with fail
    refine HF.mono ?_
    rintro e w1 ⟨rfl, hb1⟩
    go_wp2_with fail
    go_ret
    exact ⟨ret_int HE.out.symm, hb1⟩
set_option maxHeartbeats 1000000 in
theorem hclone_any (s : ByteArray) (w : World) (hs : s.size ≤ 1048576) :
    Calls Tryz.prog 96 #[.string s] w fun e w' => e = .returned (.string s) ∧ Below w.heap.size w w' := by
  go_enter Tryz.func96, Tryz.ntmps96
  go_wp2_with fail
  refine (Any.stringslite_Clone Tryz.laysM316 s _ (by omega)).mono ?_
  rintro e w1 ⟨rfl, hb⟩
  go_wp2
  go_ret
  exact ⟨rfl, hb⟩
theorem hdr_free {w w1 : World} {t : TypeId} (hb : Below (w.heap.size + 1) (w.alloc (.cells #[.string ⟨#[]⟩, .string ⟨#[]⟩] t)) w1) :
    w.heap.size < w1.heap.size ∧ w1.cell? ⟨w.heap.size, 0, none⟩ = some (.string ⟨#[]⟩) ∧ w1.cell? ⟨w.heap.size, 1, none⟩ = some (.string ⟨#[]⟩) ∧ w1.frozen? ⟨w.heap.size, 0, none⟩ = false ∧ w1.frozen? ⟨w.heap.size, 1, none⟩ = false ∧ Below w.heap.size w w1 := by
  have hz := hb.size
  simp only [World.size_alloc] at hz
  exact ⟨hz, by rw [hb.cell (p := ⟨w.heap.size, 0, none⟩) (Nat.lt_succ_self _)]; simp, by rw [hb.cell (p := ⟨w.heap.size, 1, none⟩) (Nat.lt_succ_self _)]; simp, by rw [hb.frozen (p := ⟨w.heap.size, 0, none⟩) (Nat.lt_succ_self _)]; simp, by rw [hb.frozen (p := ⟨w.heap.size, 1, none⟩) (Nat.lt_succ_self _)]; simp, ((Below.refl _ _).alloc (Nat.le_refl _) _).trans (hb.mono (Nat.le_succ _))⟩
set_option maxHeartbeats 1000000 in
theorem lineOf_any (n v : ByteArray) (w : World) (hn : n.size ≤ 1048576) (hv : v.size ≤ 1048576) :
    Calls Tryz.prog 122 #[.string n, .string v] w fun e w' => e = .returned (.agg #[.string n, .string v]) ∧ Below w.heap.size w w' := by
  go_enter Tryz.func122, Tryz.ntmps122
  go_wp2_with fail
  refine (hclone_any n _ hn).mono ?_
  rintro e w1 ⟨rfl, hb1⟩
  simp only [World.size_alloc] at hb1
  go_wp2_with fail
  refine (hclone_any v _ hv).mono ?_
  rintro e w2 ⟨rfl, hb2⟩
  have hz1 : w.heap.size + 1 ≤ w1.heap.size := by have := hb1.size; rwa [World.size_alloc] at this
  obtain ⟨hz2, q0, q1, f0, f1, kb⟩ := hdr_free (hb1.trans (hb2.mono hz1))
  obtain ⟨r0, r1⟩ := two_set (v0 := .string n) (v1 := .string v) q0 q1
  clear hb1 hb2 hz1
  go_wp2_with fail
  exact bodyPost_ret (v := .agg #[.string n, .string v]) (by simp [results, Tryz.results122, go_sem, r0, r1]) rfl ⟨rfl, (kb.setCell (Nat.le_refl _) _).setCell (Nat.le_refl _) _⟩
end Go.Proofs.YtonnggelpjjmmaaGreatDoor
/-
  The room of a TextResult behind a call.
-/
namespace Go.Proofs.YtonnggelpjjmmaaGreatDoor
open Go.ChangeShapes Go.WideShapes Go.ChangeAt Go.RowKit
theorem text_room {w w1 : World} (hb : Below (w.heap.size + 1) (w.alloc (.cells #[.int .i64 0, .string ⟨#[]⟩] 50)) w1) :
    w.heap.size < w1.heap.size ∧ w1.cell? ⟨w.heap.size, 0, none⟩ = some (.int .i64 0) ∧ w1.cell? ⟨w.heap.size, 1, none⟩ = some (.string ⟨#[]⟩) ∧ w1.frozen? ⟨w.heap.size, 0, none⟩ = false ∧ w1.frozen? ⟨w.heap.size, 1, none⟩ = false ∧ Below w.heap.size w w1 := by
  have hz := hb.size
  simp only [World.size_alloc] at hz
  exact ⟨hz, by rw [hb.cell (p := ⟨w.heap.size, 0, none⟩) (Nat.lt_succ_self _)]; simp, by rw [hb.cell (p := ⟨w.heap.size, 1, none⟩) (Nat.lt_succ_self _)]; simp, by rw [hb.frozen (p := ⟨w.heap.size, 0, none⟩) (Nat.lt_succ_self _)]; simp, by rw [hb.frozen (p := ⟨w.heap.size, 1, none⟩) (Nat.lt_succ_self _)]; simp, ((Below.refl _ _).alloc (Nat.le_refl _) _).trans (hb.mono (Nat.le_succ _))⟩
end Go.Proofs.YtonnggelpjjmmaaGreatDoor
/-
  What PackHeaders and its model answer.
-/
namespace Go.Proofs.YtonnggelpjjmmaaGreatDoor
open Go.ChangeShapes Go.WideShapes Go.ChangeAt Go.RowKit Go.Sort
theorem HdsIn.ok {w : World} {a : Option Addr} {l : List Hdr} (h : HdsIn w a l) {k : Nat} {r : Hdr} (hr : l[k]? = some r) : ∃ b off, a = some ⟨b, off, none⟩ ∧ HeadsAt w b off l := by
  rcases h with h | h
  · subst h; simp at hr
  · exact h
theorem line_app (o n v : ByteArray) : (o ++ n ++ ⟨#[58, 32]⟩ ++ v ++ ⟨#[13, 10]⟩ : ByteArray).data.toList = o.data.toList ++ lineL ⟨n, v⟩ := by
  simp only [happ_list, lineL, List.append_assoc]
theorem line_app2 (o n v : ByteArray) : (o ++ (n ++ ⟨#[58, 32]⟩ ++ v ++ ⟨#[13, 10]⟩) : ByteArray).data.toList = o.data.toList ++ lineL ⟨n, v⟩ := by
  simp only [happ_list, lineL, List.append_assoc]
set_option maxRecDepth 100000 in
set_option maxHeartbeats 4000000 in
/-- Lines that have no fault, told. -/
theorem l4Pack_any (w : World) (a : Option Addr) (cap : Nat) (l : List Hdr) (h20 : l.length ≤ 100) (hf : ∀ (i : Nat) r, l[i]? = some r → r.name.size ≤ 1100 ∧ r.value.size ≤ 1100) (hi : HdsIn w a l) :
    Calls Tryz.prog 89 #[.slice a l.length cap] w fun e w' => e = .returned (.string ⟨(packL l).toArray⟩) ∧ Below w.heap.size w w' := by
  have HI : Hid (HdsIn w a l) := hi
  have HF : Hid (∀ (i : Nat) r, l[i]? = some r → r.name.size ≤ 1100 ∧ r.value.size ≤ 1100) := hf
  clear hi hf
  generalize hn : l.length = n at *
  have HN : Hid (l.length = n) := hn
  clear hn
  go_enter Tryz.func89, Tryz.ntmps89
  go_wp2_with fail
  go_loopw [3, 4] (fun v i wr => ∃ (k : Nat) (o : ByteArray), k ≤ n ∧ i = .int .i64 k ∧ v = .string o ∧ o.data.toList = packL (l.take k) ∧ o.size ≤ k * 2300 ∧ Below w.heap.size w wr) (fun _ i _ => n - (intOf i).toNat)
  case atStart => exact ⟨0, ⟨#[]⟩, Nat.zero_le _, rfl, rfl, rfl, Nat.zero_le _, Below.refl _ _⟩
  case round =>
    obtain ⟨k, o, hk, rfl, rfl, ho, hos, hb⟩ := hrel
    have HO : Hid (o.data.toList = packL (l.take k)) := ho
    clear ho
    by_cases hlt : k < n
    · obtain ⟨r, hr⟩ : ∃ r, l[k]? = some r := ⟨l[k]'(by have := HN.out; omega), List.getElem?_eq_getElem _⟩
      obtain ⟨b, off, rfl, hat⟩ := HI.out.ok hr
      obtain ⟨p1, p3⟩ := (hat.keep hb) k r hr
      obtain ⟨z1, z2⟩ := HF.out k r hr
      have HJ : Hid (packL (l.take (k + 1)) = packL (l.take k) ++ lineL r) := packL_take hr
      have x1 := cell_regrown p1
      have x3 := cell_regrown p3
      have g0 : (0 : Int) ≤ k := by omega
      have gk : (k : Int) < n := by omega
      clear hr hat HI p1 p3 HF
      obtain ⟨rn, rv⟩ := r
      simp only at x1 x3 z1 z2
      have hoz : o.size ≤ 230000 := by omega
      have HT : Hid ((o ++ rn ++ ⟨#[58, 32]⟩ ++ rv ++ ⟨#[13, 10]⟩ : ByteArray).data.toList = packL (l.take (k + 1))) := by
        show _ = _
        rw [HJ.out, line_app, HO.out]
      have zz : (⟨#[58, 32]⟩ : ByteArray).size = 2 := rfl
      have zy : (⟨#[13, 10]⟩ : ByteArray).size = 2 := rfl
      have a1 := fun w => run_string_add_sum (P := Tryz.prog) (w := w) o rn (by omega)
      have s1 : (o ++ rn).size = o.size + rn.size := ByteArray.size_append
      have a2 := fun w => run_string_add_sum (P := Tryz.prog) (w := w) (o ++ rn) ⟨#[58, 32]⟩ (by omega)
      have s2 : (o ++ rn ++ ⟨#[58, 32]⟩ : ByteArray).size = o.size + rn.size + 2 := by rw [ByteArray.size_append, s1, zz]
      have a3 := fun w => run_string_add_sum (P := Tryz.prog) (w := w) (o ++ rn ++ ⟨#[58, 32]⟩) rv (by omega)
      have s3 : (o ++ rn ++ ⟨#[58, 32]⟩ ++ rv : ByteArray).size = o.size + rn.size + 2 + rv.size := by rw [ByteArray.size_append, s2]
      have a4 := fun w => run_string_add_sum (P := Tryz.prog) (w := w) (o ++ rn ++ ⟨#[58, 32]⟩ ++ rv) ⟨#[13, 10]⟩ (by omega)
      have s4 : (o ++ rn ++ ⟨#[58, 32]⟩ ++ rv ++ ⟨#[13, 10]⟩ : ByteArray).size = o.size + rn.size + 2 + rv.size + 2 := by rw [ByteArray.size_append, s3, zy]
      have HU : Hid ((o ++ rn ++ ⟨#[58, 32]⟩ ++ rv ++ ⟨#[13, 10]⟩ : ByteArray).size ≤ (k + 1) * 2300) := by
        show _ ≤ _
        rw [s4]; omega
      clear s1 s2 s3 s4 zz zy
      clear HJ HO
      generalize (o ++ rn ++ ⟨#[58, 32]⟩ ++ rv ++ ⟨#[13, 10]⟩ : ByteArray) = q4 at *
      generalize (o ++ rn ++ ⟨#[58, 32]⟩ ++ rv : ByteArray) = q3 at *
      generalize (o ++ rn ++ ⟨#[58, 32]⟩ : ByteArray) = q2 at *
      generalize (o ++ rn : ByteArray) = q1 at *
      go_wp2_with fail
      refine wp_region_quiet_below (by kernel_rfl) (by kernel_rfl) ?_
      repeat (go_big_quiet_step (fail))
      refine wpQuiet_nil ?_
      intro w2 hw2
      have hbb : Below w.heap.size w w2 := by
        obtain ⟨⟨d, os⟩, rfl⟩ := hw2
        exact hb.trans ((below_regrown wr d os).mono hb.size)
      clear x1 x3 hw2 hb a1 a2 a3 a4
      go_wp2_with fail
      go_roundw
      case rel => exact ⟨k + 1, q4, by omega, by go_num, rfl, HT.out, HU.out, hbb⟩
      case measure => simp [intOf]; omega
    · have HT : Hid ((⟨(packL l).toArray⟩ : ByteArray) = o) := by
        show _ = _
        rw [← List.take_of_length_le (l := l) (i := k) (by have := HN.out; omega), ← HO.out]
      clear HO
      go_wp2_with fail
      go_ret
      exact ⟨ret_str HT.out.symm, hb⟩
set_option maxRecDepth 100000 in
set_option maxHeartbeats 4000000 in
theorem implPack_ok (w : World) (a : Option Addr) (cap : Nat) (l : List Hdr) (h0 : headsC l = 0) (hset : SetIs w) (hi : HdsIn w a l) :
    Calls Tryz.prog 31 #[.slice a l.length cap] w fun e w' => e = .returned (.agg #[.int .i64 0, .string ⟨(packL l).toArray⟩]) ∧ Below w.heap.size w w' := by
  obtain ⟨h20, hfl⟩ := headsC_zero h0
  have HF : Hid (∀ W, Below w.heap.size w W → Calls Tryz.prog 69 #[.slice a l.length cap] W fun e w' => e = .returned (.int .i64 0) ∧ Below W.heap.size W w') := fun W hb => by
    have := implHFault_any W a cap l (by omega) (hset.below hb) (hi.keep hb)
    rw [h0] at this
    exact this
  have HI : Hid (HdsIn w a l) := hi
  have HZ : Hid (∀ (i : Nat) r, l[i]? = some r → r.name.size ≤ 64 ∧ r.value.size ≤ 200) := fun i r hr => by obtain ⟨x1, x2, _⟩ := faultH_zero (hfl i r hr); exact ⟨hword_max x1, x2⟩
  clear hi hset hfl h0
  generalize hn : l.length = n at *
  have HN : Hid (l.length = n) := hn
  clear hn
  go_enter Tryz.func31, Tryz.ntmps31
  go_wp2_with fail
  refine (HF.out _ ((Below.refl _ _).alloc (Nat.le_refl _) _)).mono ?_
  rintro e w1 ⟨rfl, hb1⟩
  rw [World.size_alloc] at hb1
  have HB1 : Hid (Below (w.heap.size + 1) (w.alloc (.cells #[.int .i64 0, .string ⟨#[]⟩] 50)) w1) := hb1
  clear hb1 HF
  go_wp2_with fail
  go_loopw [4, 15] (fun v i wr => ∃ (k : Nat) (o : ByteArray), k ≤ n ∧ i = .int .i64 k ∧ v = .string o ∧ o.data.toList = packL (l.take k) ∧ o.size ≤ k * 268 ∧ Below (w.heap.size + 1) (w.alloc (.cells #[.int .i64 0, .string ⟨#[]⟩] 50)) wr) (fun _ i _ => n - (intOf i).toNat)
  case atStart => exact ⟨0, ⟨#[]⟩, Nat.zero_le _, rfl, rfl, rfl, Nat.zero_le _, HB1.out⟩
  case round =>
    obtain ⟨k, o, hk, rfl, rfl, ho, hos, hb⟩ := hrel
    have HO : Hid (o.data.toList = packL (l.take k)) := ho
    have hz : w.heap.size + 1 ≤ wr.heap.size := by have := hb.size; rwa [World.size_alloc] at this
    clear ho HB1
    by_cases hlt : k < n
    · obtain ⟨r, hr⟩ : ∃ r, l[k]? = some r := ⟨l[k]'(by have := HN.out; omega), List.getElem?_eq_getElem _⟩
      obtain ⟨b, off, rfl, hat⟩ := HI.out.ok hr
      have hwr : Below w.heap.size w wr := ((Below.refl _ _).alloc (Nat.le_refl _) _).trans (hb.mono (Nat.le_succ _))
      obtain ⟨p1, p3⟩ := (hat.keep hwr) k r hr
      obtain ⟨z1, z2⟩ := HZ.out k r hr
      have HJ : Hid (packL (l.take (k + 1)) = packL (l.take k) ++ lineL r) := packL_take hr
      have gk : (k : Int) < n := by omega
      clear hr hat HI hwr HZ
      obtain ⟨rn, rv⟩ := r
      simp only at p1 p3 z1 z2
      have hoz : o.size ≤ 6000 := by omega
      have HT : Hid ((o ++ (rn ++ ⟨#[58, 32]⟩ ++ rv ++ ⟨#[13, 10]⟩) : ByteArray).data.toList = packL (l.take (k + 1))) := by
        show _ = _
        rw [HJ.out, line_app2, HO.out]
      have HU : Hid ((o ++ (rn ++ ⟨#[58, 32]⟩ ++ rv ++ ⟨#[13, 10]⟩) : ByteArray).size ≤ (k + 1) * 268) := by
        show _ ≤ _
        simp only [ByteArray.size_append, show (⟨#[58, 32]⟩ : ByteArray).size = 2 from rfl, show (⟨#[13, 10]⟩ : ByteArray).size = 2 from rfl]
        omega
      clear HJ HO
      go_wp2_with fail
      go_roundw
      case rel => exact ⟨k + 1, o ++ (rn ++ ⟨#[58, 32]⟩ ++ rv ++ ⟨#[13, 10]⟩), by omega, by go_num, rfl, HT.out, HU.out, hb.alloc hz _⟩
      case measure => simp [intOf]; omega
    · have HT : Hid ((⟨(packL l).toArray⟩ : ByteArray) = o) := by
        show _ = _
        rw [← List.take_of_length_le (l := l) (i := k) (by have := HN.out; omega), ← HO.out]
      obtain ⟨hz2, q0, q1, f0, f1, kb⟩ := text_room hb
      obtain ⟨r0, r1⟩ := two_set (v0 := .int .i64 0) (v1 := .string o) q0 q1
      clear HO hb
      go_wp2_with fail
      exact bodyPost_ret (v := .agg #[.int .i64 0, .string o]) (by simp [results, Tryz.results31, go_sem, r0, r1]) rfl ⟨by rw [HT.out], (kb.setCell (Nat.le_refl _) _).setCell (Nat.le_refl _) _⟩
set_option maxHeartbeats 1000000 in
theorem implPack_any (w : World) (a : Option Addr) (cap : Nat) (l : List Hdr) (hl : l.length ≤ 1048576) (hset : SetIs w) (hi : HdsIn w a l) :
    Calls Tryz.prog 31 #[.slice a l.length cap] w fun e w' => e = .returned (.agg #[.int .i64 (headsC l), .string (packT l)]) ∧ Below w.heap.size w w' := by
  by_cases h0 : headsC l = 0
  · rw [packT_ok h0, h0]
    exact implPack_ok w a cap l h0 hset hi
  · have HF : Hid (∀ W, Below w.heap.size w W → Calls Tryz.prog 69 #[.slice a l.length cap] W fun e w' => e = .returned (.int .i64 (headsC l)) ∧ Below W.heap.size W w') := fun W hb => implHFault_any W a cap l hl (hset.below hb) (hi.keep hb)
    rw [packT_bad h0]
    clear hi hset
    generalize headsC l = fc at *
    generalize l.length = n at *
    go_enter Tryz.func31, Tryz.ntmps31
    go_wp2_with fail
    refine (HF.out _ ((Below.refl _ _).alloc (Nat.le_refl _) _)).mono ?_
    rintro e w1 ⟨rfl, hb1⟩
    rw [World.size_alloc] at hb1
    obtain ⟨hz2, q0, q1, f0, f1, kb⟩ := text_room hb1
    obtain ⟨r0, r1⟩ := two_set (v0 := .int .i64 fc) (v1 := .string ⟨#[]⟩) q0 q1
    clear hb1 HF
    go_wp2_with fail
    exact bodyPost_ret (v := .agg #[.int .i64 fc, .string ⟨#[]⟩]) (by simp [results, Tryz.results31, go_sem, r0, r1]) rfl ⟨rfl, (kb.setCell (Nat.le_refl _) _).setCell (Nat.le_refl _) _⟩
end Go.Proofs.YtonnggelpjjmmaaGreatDoor
/-
  What firstPlaces and linesNamed answer.
-/
namespace Go.Proofs.YtonnggelpjjmmaaGreatDoor
open Go.ChangeShapes Go.WideShapes Go.ChangeAt Go.RowKit Go.Sort
theorem firstAt_known {l : List Hdr} {r : Hdr} {j : Nat} (h : firstAt (lowS r.name) l = some j) (x : ByteArray) : firstAt x l = firstAt x (l ++ [r]) := by
  rw [firstAt_snoc]
  cases c : firstAt x l with
  | some i => rfl
  | none =>
    by_cases e : lowS r.name = x
    · subst e; rw [h] at c; cases c
    · simp only [if_neg e]
theorem firstAt_new {l : List Hdr} {r : Hdr} (h : firstAt (lowS r.name) l = none) (x : ByteArray) : (if x = lowS r.name then some l.length else firstAt x l) = firstAt x (l ++ [r]) := by
  rw [firstAt_snoc]
  by_cases e : x = lowS r.name
  · subst e
    rw [if_pos rfl, h]
    simp
  · rw [if_neg e]
    cases c : firstAt x l with
    | some i => rfl
    | none => simp only [if_neg (fun q => e (Eq.symm q))]
set_option maxRecDepth 100000 in
set_option maxHeartbeats 4000000 in
theorem firstPlaces_any (w : World) (a : Option Addr) (cap : Nat) (l : List Hdr) (h20 : l.length ≤ 20) (hz : ∀ (i : Nat) r, l[i]? = some r → r.name.size ≤ 64) (hi : HdsIn w a l) :
    Calls Tryz.prog 95 #[.slice a l.length cap] w fun e w' => e = .returned (.map (some w.heap.size)) ∧ NamesMap w' w.heap.size 20 (fun x => firstAt x l) ∧ Below w.heap.size w w' := by
  have HI : Hid (HdsIn w a l) := hi
  have HZ : Hid (∀ (i : Nat) r, l[i]? = some r → r.name.size ≤ 64) := hz
  clear hi hz
  generalize hn : l.length = n at *
  have HN : Hid (l.length = n) := hn
  clear hn
  have hmm := @run_makeMap Tryz.prog
  go_enter Tryz.func95, Tryz.ntmps95
  go_wp2_with fail
  go_loopw [12] (fun i wr => ∃ (k : Nat), k ≤ n ∧ i = .int .i64 k ∧ NamesMap wr w.heap.size k (fun x => firstAt x (l.take k)) ∧ Below w.heap.size w wr) (fun i _ => n - (intOf i).toNat)
  case atStart => exact ⟨0, Nat.zero_le _, rfl, NamesMap.made w, (Below.refl _ _).alloc (Nat.le_refl _) _⟩
  case round =>
    obtain ⟨k, hk, rfl, hm, hb⟩ := hrel
    have HM : Hid (NamesMap wr w.heap.size k (fun x => firstAt x (l.take k))) := hm
    clear hm
    by_cases hlt : k < n
    · obtain ⟨r, hr⟩ : ∃ r, l[k]? = some r := ⟨l[k]'(by have := HN.out; omega), List.getElem?_eq_getElem _⟩
      obtain ⟨b, off, rfl, hat⟩ := HI.out.ok hr
      obtain ⟨p1, p3⟩ := (hat.keep hb) k r hr
      have z1 := HZ.out k r hr
      have HK : Hid (l.take (k + 1) = l.take k ++ [r]) := take_hdr hr
      have hlk : Hid ((l.take k).length = k) := by show _ = _; rw [List.length_take]; have := HN.out; omega
      have gk : (k : Int) < n := by omega
      clear hr hat HI HZ
      have FS := fun j => @firstAt_known (l.take k) r j
      have FN := @firstAt_new (l.take k) r
      obtain ⟨rn, rv⟩ := r
      simp only at p1 p3 z1 FS FN
      rw [hlk.out] at FN
      have SN := fun w => smallName_any rn w (by omega)
      have sz := lowS_size rn
      generalize lowS rn = q at *
      have HSN : Hid (∀ w, Calls Tryz.prog 60 #[.string rn] w fun e w' => e = .returned (.string q) ∧ Below w.heap.size w w') := SN
      clear SN
      cases hq : firstAt q (l.take k) with
      | some j =>
        have HX : Hid (∀ x, firstAt x (l.take k) = firstAt x (l.take (k + 1))) := fun x => by rw [HK.out]; exact FS j hq x
        have HQ : Hid (firstAt q (l.take k) = some j) := hq
        clear hq FS FN HK
        go_wp2_with fail
        refine (HSN.out _).mono ?_
        rintro e w2 ⟨rfl, hb2⟩
        obtain ⟨_, _, _, kb⟩ := hdr_room hb2
        have HM2 : Hid (NamesMap w2 w.heap.size k (fun x => firstAt x (l.take k))) := HM.out.below kb
        have HB2 : Hid (Below w.heap.size w w2) := hb.trans (kb.mono hb.size)
        clear hb2 kb hb HM p1 p3
        go_wp2_with (at_lookup; refine wpList_look_some _ rfl _ _ rfl w.heap.size k _ rfl HM2.out q rfl (by omega) j HQ.out ?_)
        go_roundw
        case rel => exact ⟨k + 1, by omega, by go_num, NamesMap.of (by obtain ⟨D, h1, h2⟩ := HM2.out; exact ⟨D, h1.mono (Nat.le_succ _), h2⟩) HX.out, HB2.out⟩
        case measure => simp [intOf]; omega
      | none =>
        have HX : Hid (∀ x, (if x = q then some k else firstAt x (l.take k)) = firstAt x (l.take (k + 1))) := fun x => by rw [HK.out]; exact FN hq x
        have HQ : Hid (firstAt q (l.take k) = none) := hq
        clear hq FS FN HK
        go_wp2_with fail
        refine (HSN.out _).mono ?_
        rintro e w2 ⟨rfl, hb2⟩
        obtain ⟨_, _, _, kb⟩ := hdr_room hb2
        have HM2 : Hid (NamesMap w2 w.heap.size k (fun x => firstAt x (l.take k))) := HM.out.below kb
        have HB2 : Hid (Below w.heap.size w w2) := hb.trans (kb.mono hb.size)
        clear hb2 kb hb HM p1 p3
        go_wp2_with (first | (at_lookup; refine wpList_look_none _ rfl _ _ rfl w.heap.size k _ rfl HM2.out q rfl (by omega) HQ.out ?_) | (at_mapUpdate; refine wpList_put _ rfl _ _ _ rfl w.heap.size k _ rfl HM2.out (by omega) q rfl (by omega) k (by omega) rfl w.heap.size (Nat.le_refl _) ?_; intro w3 HM3 hb3))
        go_roundw
        case rel => exact ⟨k + 1, by omega, by go_num, HM3.of HX.out, HB2.out.trans hb3⟩
        case measure => simp [intOf]; omega
    · have HX : Hid (NamesMap wr w.heap.size 20 (fun x => firstAt x l)) := by
        have e : l.take k = l := List.take_of_length_le (by have := HN.out; omega)
        have := HM.out
        rw [e] at this
        obtain ⟨D, h1, h2⟩ := this
        exact ⟨D, h1.mono (by omega), h2⟩
      clear HM
      go_wp2_with fail
      go_ret
      exact ⟨rfl, HX.out, hb⟩
/-- What is left of the lines: those whose names the map has. -/
def keptH (p : ByteArray → Option Nat) (l : List Hdr) : List Hdr := l.filter fun r => (p (lowS r.name)).isSome
theorem keptH_yes {p : ByteArray → Option Nat} {r : Hdr} {i : Nat} (l : List Hdr) (h : p (lowS r.name) = some i) : keptH p (l ++ [r]) = keptH p l ++ [r] := by simp [keptH, h]
theorem keptH_no {p : ByteArray → Option Nat} {r : Hdr} (l : List Hdr) (h : p (lowS r.name) = none) : keptH p (l ++ [r]) = keptH p l := by simp [keptH, h]
theorem keptH_len (p : ByteArray → Option Nat) (l : List Hdr) : (keptH p l).length ≤ l.length := List.length_filter_le _ _
def KeptRes (base : Nat) (L : List Hdr) (e : Ending) (w : World) : Prop := ∃ v, e = .returned v ∧ OwnH w base v L
theorem KeptRes.mk {base : Nat} {L M : List Hdr} {w : World} {v : Value} (h : M = L) (ho : OwnH w base v L) : KeptRes base M (.returned v) w := ⟨v, rfl, h ▸ ho⟩
set_option maxRecDepth 100000 in
set_option maxHeartbeats 8000000 in
theorem linesNamed_any (w : World) (a : Option Addr) (cap : Nat) (l : List Hdr) (B : Nat) (p : ByteArray → Option Nat) (h20 : l.length ≤ 20) (hz : ∀ (i : Nat) r, l[i]? = some r → r.name.size ≤ 64 ∧ r.value.size ≤ 200) (hi : HdsIn w a l) (hm : NamesMap w B 20 p) :
    Calls Tryz.prog 126 #[.slice a l.length cap, .map (some B)] w fun e w' => KeptRes w.heap.size (keptH p l) e w' ∧ Below w.heap.size w w' := by
  have HI : Hid (HdsIn w a l) := hi
  have HZ : Hid (∀ (i : Nat) r, l[i]? = some r → r.name.size ≤ 64 ∧ r.value.size ≤ 200) := hz
  have HM : Hid (NamesMap w B 20 p) := hm
  clear hi hz hm
  generalize hn : l.length = n at *
  have HN : Hid (l.length = n) := hn
  clear hn
  go_enter Tryz.func126, Tryz.ntmps126
  go_wp2_with fail
  go_loopw [5, 12] (fun v i wr => ∃ (k : Nat), k ≤ n ∧ i = .int .i64 k ∧ OwnH wr w.heap.size v (keptH p (l.take k)) ∧ Below w.heap.size w wr) (fun _ i _ => n - (intOf i).toNat)
  case atStart => exact ⟨0, Nat.zero_le _, rfl, OwnH.nil _ _, Below.refl _ _⟩
  case round =>
    obtain ⟨k, hk, rfl, ho, hb⟩ := hrel
    have HO : Hid (OwnH wr w.heap.size u5 (keptH p (l.take k))) := ho
    have hzw := hb.size
    clear ho
    by_cases hlt : k < n
    · obtain ⟨r, hr⟩ : ∃ r, l[k]? = some r := ⟨l[k]'(by have := HN.out; omega), List.getElem?_eq_getElem _⟩
      obtain ⟨b, off, rfl, hat⟩ := HI.out.ok hr
      obtain ⟨p1, p3⟩ := (hat.keep hb) k r hr
      obtain ⟨z1, z2⟩ := HZ.out k r hr
      have HK : Hid (l.take (k + 1) = l.take k ++ [r]) := take_hdr hr
      have hlk : (keptH p (l.take k)).length ≤ 20 := Nat.le_trans (keptH_len _ _) (by rw [List.length_take]; omega)
      have gk : (k : Int) < n := by omega
      have HMr : Hid (NamesMap wr B 20 p) := HM.out.below hb
      clear hr hat HI HZ
      have KY := fun i => @keptH_yes p r i (l.take k)
      have KN := @keptH_no p r (l.take k)
      obtain ⟨rn, rv⟩ := r
      simp only at p1 p3 z1 z2 KY KN
      have SN := fun w => smallName_any rn w (by omega)
      have sz := lowS_size rn
      generalize lowS rn = q at *
      have HSN : Hid (∀ w, Calls Tryz.prog 60 #[.string rn] w fun e w' => e = .returned (.string q) ∧ Below w.heap.size w w') := SN
      clear SN
      cases hq : p q with
      | none =>
        have HX : Hid (keptH p (l.take (k + 1)) = keptH p (l.take k)) := by show _ = _; rw [HK.out]; exact KN hq
        have HQ : Hid (p q = none) := hq
        clear hq KY KN HK
        generalize keptH p (l.take k) = L at *
        go_wp2_with fail
        refine (HSN.out _).mono ?_
        rintro e w2 ⟨rfl, hb2⟩
        obtain ⟨_, _, _, kb⟩ := hdr_room hb2
        have HM2 : Hid (NamesMap w2 B 20 p) := HMr.out.below kb
        have HO2 : Hid (OwnH w2 w.heap.size u5 L) := HO.out.below kb
        have HB2 : Hid (Below w.heap.size w w2) := hb.trans (kb.mono hb.size)
        clear hb2 kb hb HMr p1 p3 HO
        go_wp2_with (at_lookup; refine wpList_look_none _ rfl _ _ rfl B 20 p rfl HM2.out q rfl (by omega) HQ.out ?_)
        go_roundw
        case rel => exact ⟨k + 1, by omega, by go_num, by rw [HX.out]; exact HO2.out, HB2.out⟩
        case measure => simp [intOf]; omega
      | some j =>
        have HX : Hid (keptH p (l.take (k + 1)) = keptH p (l.take k) ++ [⟨rn, rv⟩]) := by show _ = _; rw [HK.out]; exact KY j hq
        have HQ : Hid (p q = some j) := hq
        clear hq KY KN HK
        generalize keptH p (l.take k) = L at *
        go_wp2_with fail
        refine (HSN.out _).mono ?_
        rintro e w2 ⟨rfl, hb2⟩
        obtain ⟨hz2, c0, c1, kb⟩ := hdr_room hb2
        have HM2 : Hid (NamesMap w2 B 20 p) := HMr.out.below kb
        have HO2 : Hid (OwnH w2 w.heap.size u5 L) := HO.out.below kb
        have HB2 : Hid (Below w.heap.size w w2) := hb.trans (kb.mono hb.size)
        clear hb2 kb hb HMr p1 p3 HO
        go_wp2_with (at_lookup; refine wpList_look_some _ rfl _ _ rfl B 20 p rfl HM2.out q rfl (by omega) j HQ.out ?_)
        refine (lineOf_any rn rv _ (by omega) (by omega)).mono ?_
        rintro e w3 ⟨rfl, hb3⟩
        have HO3 : Hid (OwnH w3 w.heap.size u5 L) := HO2.out.below hb3
        have HB3 : Hid (Below w.heap.size w w3) := HB2.out.trans (hb3.mono HB2.out.size)
        have hz3 := HB3.out.size
        clear hb3 HM2 HO2 HB2 c0 c1
        go_wp2_with (at_builtin; refine wpList_append_hdr _ rfl (.tmp 25) (.tmp 31) rfl w.heap.size _ L rn rv rfl rfl HO3.out (by omega) hz3 ?_; intro v4 w4 HO4 hb4 hz4 hk4)
        go_roundw
        case rel => exact ⟨k + 1, by omega, by go_num, by rw [HX.out]; exact HO4, HB3.out.trans hb4⟩
        case measure => simp [intOf]; omega
    · have HX : Hid (keptH p l = keptH p (l.take k)) := by
        show _ = _
        rw [List.take_of_length_le (by have := HN.out; omega)]
      go_wp2_with fail
      go_ret
      exact ⟨KeptRes.mk HX.out HO.out, hb⟩
end Go.Proofs.YtonnggelpjjmmaaGreatDoor
/-
  What DropHeader and its model answer.
-/
namespace Go.Proofs.YtonnggelpjjmmaaGreatDoor
open Go.ChangeShapes Go.WideShapes Go.ChangeAt Go.RowKit Go.Sort
/-- A result: a code and head lines in memory of the call's own. -/
def HRes (c : Int) (L : List Hdr) (base : Nat) (e : Ending) (w : World) : Prop := ∃ v, e = .returned (.agg #[.int .i64 c, v]) ∧ OwnH w base v L
theorem HRes.mk {c d : Int} {L M : List Hdr} {base : Nat} {w : World} {v : Value} (h : c = d ∧ L = M) (ho : OwnH w base v M) : HRes c L base (.returned (.agg #[.int .i64 d, v])) w := ⟨v, by rw [h.1], by rw [h.2]; exact ho⟩
theorem ownH_set {w : World} {base b o : Nat} {v u : Value} {l : List Hdr} (h : OwnH w base v l) (hb : b < base) : OwnH (w.setCell ⟨b, o, none⟩ u) base v l := by
  obtain ⟨h1, h2⟩ := h
  refine ⟨h1, ?_⟩
  rcases h2 with h2 | ⟨g, c, cur, e, hg, hh, hrest⟩
  · exact .inl h2
  · exact .inr ⟨g, c, cur, e, hg, by rw [RowKit.Below.heap_setCell _ _ _ _ (by show g ≠ b; omega)]; exact hh, hrest⟩
theorem heads_room {w w1 : World} (hb : Below (w.heap.size + 1) (w.alloc (.cells #[.int .i64 0, .slice none 0 0] 84)) w1) :
    w.heap.size < w1.heap.size ∧ w1.cell? ⟨w.heap.size, 0, none⟩ = some (.int .i64 0) ∧ w1.cell? ⟨w.heap.size, 1, none⟩ = some (.slice none 0 0) ∧ w1.frozen? ⟨w.heap.size, 0, none⟩ = false ∧ w1.frozen? ⟨w.heap.size, 1, none⟩ = false ∧ Below w.heap.size w w1 := by
  have hz := hb.size
  simp only [World.size_alloc] at hz
  exact ⟨hz, by rw [hb.cell (p := ⟨w.heap.size, 0, none⟩) (Nat.lt_succ_self _)]; simp, by rw [hb.cell (p := ⟨w.heap.size, 1, none⟩) (Nat.lt_succ_self _)]; simp, by rw [hb.frozen (p := ⟨w.heap.size, 0, none⟩) (Nat.lt_succ_self _)]; simp, by rw [hb.frozen (p := ⟨w.heap.size, 1, none⟩) (Nat.lt_succ_self _)]; simp, ((Below.refl _ _).alloc (Nat.le_refl _) _).trans (hb.mono (Nat.le_succ _))⟩
set_option maxRecDepth 100000 in
set_option maxHeartbeats 8000000 in
theorem l4Drop_any (w : World) (a : Option Addr) (cap : Nat) (l : List Hdr) (name : ByteArray) (h20 : l.length ≤ 20) (hz : ∀ (i : Nat) r, l[i]? = some r → r.name.size ≤ 64) (hnm : name.size ≤ 64) (hi : HdsIn w a l) :
    Calls Tryz.prog 56 #[.slice a l.length cap, .string name] w fun e w' => KeptRes w.heap.size (dropH (lowS name) l) e w' ∧ Below w.heap.size w w' := by
  have HI : Hid (HdsIn w a l) := hi
  have HZ : Hid (∀ (i : Nat) r, l[i]? = some r → r.name.size ≤ 64) := hz
  clear hi hz
  generalize hn : l.length = n at *
  have HN : Hid (l.length = n) := hn
  clear hn
  go_enter Tryz.func56, Tryz.ntmps56
  go_wp2_with fail
  go_loopw [5, 6] (fun v i wr => ∃ (k : Nat), k ≤ n ∧ i = .int .i64 k ∧ OwnH wr w.heap.size v (dropH (lowS name) (l.take k)) ∧ Below w.heap.size w wr) (fun _ i _ => n - (intOf i).toNat)
  case atStart => exact ⟨0, Nat.zero_le _, rfl, OwnH.made0 w w.heap.size (Nat.le_refl _), (Below.refl _ _).alloc (Nat.le_refl _) _⟩
  case round =>
    obtain ⟨k, hk, rfl, ho, hb⟩ := hrel
    have HO : Hid (OwnH wr w.heap.size u5 (dropH (lowS name) (l.take k))) := ho
    have hzw := hb.size
    clear ho
    by_cases hlt : k < n
    · obtain ⟨r, hr⟩ : ∃ r, l[k]? = some r := ⟨l[k]'(by have := HN.out; omega), List.getElem?_eq_getElem _⟩
      obtain ⟨b, off, rfl, hat⟩ := HI.out.ok hr
      obtain ⟨p1, p3⟩ := (hat.keep hb) k r hr
      have z1 := HZ.out k r hr
      have HK : Hid (l.take (k + 1) = l.take k ++ [r]) := take_hdr hr
      have hlk : (dropH (lowS name) (l.take k)).length ≤ 20 := Nat.le_trans (dropH_len _ _) (by rw [List.length_take]; omega)
      have gk : (k : Int) < n := by omega
      clear hr hat HI HZ
      have KY := @dropH_yes (lowS name) r (l.take k)
      have KN := @dropH_no (lowS name) r (l.take k)
      obtain ⟨rn, rv⟩ := r
      simp only at p1 p3 z1 KY KN
      have SA := fun w => l4Alike_any rn name w (by omega) (by omega)
      by_cases he : lowS rn = lowS name
      · have HX : Hid (dropH (lowS name) (l.take (k + 1)) = dropH (lowS name) (l.take k)) := by show _ = _; rw [HK.out]; exact KY he
        have HSA : Hid (∀ w, Calls Tryz.prog 77 #[.string rn, .string name] w fun e w' => e = .returned (.bool true) ∧ Below w.heap.size w w') := by
          rw [show decide (lowS rn = lowS name) = true from by simpa using he] at SA
          exact SA
        clear SA KY KN HK he
        generalize dropH (lowS name) (l.take k) = L at *
        go_wp2_with fail
        refine (HSA.out _).mono ?_
        rintro e w2 ⟨rfl, hb2⟩
        have HO2 : Hid (OwnH w2 w.heap.size u5 L) := HO.out.below hb2
        have HB2 : Hid (Below w.heap.size w w2) := hb.trans (hb2.mono hb.size)
        clear hb2 hb HO p1 p3
        go_wp2_with fail
        go_roundw
        case rel => exact ⟨k + 1, by omega, by go_num, by rw [HX.out]; exact HO2.out, HB2.out⟩
        case measure => simp [intOf]; omega
      · have HX : Hid (dropH (lowS name) (l.take (k + 1)) = dropH (lowS name) (l.take k) ++ [⟨rn, rv⟩]) := by show _ = _; rw [HK.out]; exact KN he
        have HSA : Hid (∀ w, Calls Tryz.prog 77 #[.string rn, .string name] w fun e w' => e = .returned (.bool false) ∧ Below w.heap.size w w') := by
          rw [show decide (lowS rn = lowS name) = false from by simpa using he] at SA
          exact SA
        clear SA KY KN HK he
        generalize dropH (lowS name) (l.take k) = L at *
        go_wp2_with fail
        refine (HSA.out _).mono ?_
        rintro e w2 ⟨rfl, hb2⟩
        have HO2 : Hid (OwnH w2 w.heap.size u5 L) := HO.out.below hb2
        have HB2 : Hid (Below w.heap.size w w2) := hb.trans (hb2.mono hb.size)
        have p1 := hkeep hb2 p1
        have p3 := hkeep hb2 p3
        have hz2 := HB2.out.size
        clear hb2 hb HO
        go_wp2_with (at_builtin; refine wpList_append_hdr _ rfl (.tmp 22) (.tmp 27) rfl w.heap.size _ L rn rv rfl rfl HO2.out (by omega) hz2 ?_; intro v4 w4 HO4 hb4 hz4 hk4)
        go_roundw
        case rel => exact ⟨k + 1, by omega, by go_num, by rw [HX.out]; exact HO4, HB2.out.trans hb4⟩
        case measure => simp [intOf]; omega
    · have HX : Hid (dropH (lowS name) l = dropH (lowS name) (l.take k)) := by
        show _ = _
        rw [List.take_of_length_le (by have := HN.out; omega)]
      go_wp2_with fail
      go_ret
      exact ⟨KeptRes.mk HX.out HO.out, hb⟩
theorem dropL_bad {l : List Hdr} {name : ByteArray} (h : askC l name ≠ 0) : dropL l name = [] := by unfold dropL; rw [if_neg h]
theorem dropL_ok {l : List Hdr} {name : ByteArray} (h : askC l name = 0) : dropL l name = dropH (lowS name) l := by unfold dropL; rw [if_pos h]
theorem dropL_len (l : List Hdr) (name : ByteArray) : (dropL l name).length ≤ 20 := by
  by_cases h : askC l name = 0
  · rw [dropL_ok h]
    have := (headsC_zero (askC_zero h).1).1
    exact Nat.le_trans (dropH_len _ _) this
  · rw [dropL_bad h]; simp
theorem asked {l : List Hdr} {name : ByteArray} (h : askC l name = 0) : l.length ≤ 20 ∧ (∀ (i : Nat) r, l[i]? = some r → r.name.size ≤ 64 ∧ r.value.size ≤ 200) ∧ name.size ≤ 64 := by
  obtain ⟨h0, hw⟩ := askC_zero h
  obtain ⟨h20, hf⟩ := headsC_zero h0
  exact ⟨h20, fun i r hr => by obtain ⟨x1, x2, _⟩ := faultH_zero (hf i r hr); exact ⟨hword_max x1, x2⟩, hword_max hw⟩
theorem keptH_drop (x : ByteArray) (l : List Hdr) : keptH (fun y => if y = x then none else firstAt y l) l = dropH x l := by
  unfold keptH dropH
  refine List.filter_congr fun r hr => ?_
  by_cases e : lowS r.name = x
  · simp [e]
  · simp only [e, not_false_eq_true, decide_true]
    cases c : firstAt (lowS r.name) l with
    | some i => rfl
    | none => exact absurd rfl (firstAt_none c r hr)
set_option maxRecDepth 100000 in
set_option maxHeartbeats 4000000 in
theorem implDrop_any (w : World) (a : Option Addr) (cap : Nat) (l : List Hdr) (name : ByteArray) (hl : l.length ≤ 1048576) (hset : SetIs w) (hi : HdsIn w a l) :
    Calls Tryz.prog 86 #[.slice a l.length cap, .string name] w fun e w' => HRes (askC l name) (dropL l name) w.heap.size e w' ∧ Below w.heap.size w w' := by
  have HA : Hid (∀ W, Below w.heap.size w W → Calls Tryz.prog 94 #[.slice a l.length cap, .string name] W fun e w' => e = .returned (.int .i64 (askC l name)) ∧ Below W.heap.size W w') := fun W hb => namedFault_any W a cap l name hl (hset.below hb) (hi.keep hb)
  by_cases h0 : askC l name = 0
  · obtain ⟨h20, hz, hnm⟩ := asked h0
    have HP : Hid (∀ W, Below w.heap.size w W → Calls Tryz.prog 95 #[.slice a l.length cap] W fun e w' => e = .returned (.map (some W.heap.size)) ∧ NamesMap w' W.heap.size 20 (fun x => firstAt x l) ∧ Below W.heap.size W w') := fun W hb => firstPlaces_any W a cap l h20 (fun i r hr => (hz i r hr).1) (hi.keep hb)
    have HS : Hid (∀ W, Calls Tryz.prog 60 #[.string name] W fun e w' => e = .returned (.string (lowS name)) ∧ Below W.heap.size W w') := fun W => smallName_any name W (by omega)
    have HK : Hid (∀ W B, Below w.heap.size w W → NamesMap W B 20 (fun y => if y = lowS name then none else firstAt y l) → Calls Tryz.prog 126 #[.slice a l.length cap, .map (some B)] W fun e w' => KeptRes W.heap.size (dropL l name) e w' ∧ Below W.heap.size W w') := fun W B hb hm => by
      rw [dropL_ok h0, ← keptH_drop]
      exact linesNamed_any W a cap l B _ h20 hz (hi.keep hb) hm
    have sz := lowS_size name
    rw [h0] at HA ⊢
    clear hi hz h0 h20 hset
    generalize dropL l name = L at *
    generalize l.length = n at *
    generalize lowS name = q at *
    go_enter Tryz.func86, Tryz.ntmps86
    go_wp2_with fail
    refine (HA.out _ ((Below.refl _ _).alloc (Nat.le_refl _) _)).mono ?_
    rintro e w1 ⟨rfl, hb1⟩
    rw [World.size_alloc] at hb1
    have HB1 : Hid (Below (w.heap.size + 1) (w.alloc (.cells #[.int .i64 0, .slice none 0 0] 84)) w1) := hb1
    have hz1 : w.heap.size + 1 ≤ w1.heap.size := by have := hb1.size; rwa [World.size_alloc] at this
    clear hb1 HA
    go_wp2_with fail
    refine (HP.out _ (heads_room HB1.out).2.2.2.2.2).mono ?_
    rintro e w2 ⟨rfl, hm2, hb2⟩
    have HB2 : Hid (Below (w.heap.size + 1) (w.alloc (.cells #[.int .i64 0, .slice none 0 0] 84)) w2) := HB1.out.trans (hb2.mono hz1)
    have hz2 : w.heap.size + 1 ≤ w2.heap.size := Nat.le_trans hz1 hb2.size
    have HM2 : Hid (NamesMap w2 w1.heap.size 20 (fun x => firstAt x l)) := hm2
    clear hb2 HB1 hm2 HP
    generalize w1.heap.size = B at *
    clear w1
    go_wp2_with fail
    refine (HS.out _).mono ?_
    rintro e w3 ⟨rfl, hb3⟩
    have HB3 : Hid (Below (w.heap.size + 1) (w.alloc (.cells #[.int .i64 0, .slice none 0 0] 84)) w3) := HB2.out.trans (hb3.mono hz2)
    have hz3 : w.heap.size + 1 ≤ w3.heap.size := Nat.le_trans hz2 hb3.size
    have HM3 : Hid (NamesMap w3 B 20 (fun x => firstAt x l)) := HM2.out.below hb3
    clear hb3 HB2 HM2 HS hz2
    clear w2
    go_wp2_with (at_delete; refine wpList_del _ rfl _ _ rfl B 20 _ rfl HM3.out q rfl (by omega) (w.heap.size + 1) hz1 ?_; intro w4 HM4 hb4)
    have HB4 : Below (w.heap.size + 1) (w.alloc (.cells #[.int .i64 0, .slice none 0 0] 84)) w4 := HB3.out.trans hb4
    refine (HK.out _ _ (heads_room HB4).2.2.2.2.2 HM4).mono ?_
    rintro e w5 ⟨⟨v, rfl, ho⟩, hb5⟩
    have hz4 : w.heap.size + 1 ≤ w4.heap.size := by have := HB4.size; rwa [World.size_alloc] at this
    obtain ⟨hz5, q0, q1, f0, f1, kb⟩ := heads_room (HB4.trans (hb5.mono hz4))
    obtain ⟨va, vc, hv, _⟩ := ho.at
    generalize hn : L.length = vn at hv
    subst hv
    obtain ⟨r0, r1⟩ := two_set (v0 := .int .i64 0) (v1 := .slice va vn vc) q0 q1
    have KO : Hid (OwnH w5 (w.heap.size + 1) (.slice va vn vc) L) := ho.lower hz4
    clear hb5 HB4 HK ho hn HM4 HM3 HB3 hb4
    go_wp2_with fail
    exact bodyPost_ret (v := .agg #[.int .i64 0, .slice va vn vc]) (by simp [results, Tryz.results86, go_sem, r0, r1]) rfl ⟨HRes.mk ⟨rfl, rfl⟩ ((ownH_set (ownH_set KO.out (Nat.lt_succ_self _)) (Nat.lt_succ_self _)).lower (Nat.le_succ _)), (kb.setCell (Nat.le_refl _) _).setCell (Nat.le_refl _) _⟩
  · rw [dropL_bad h0]
    clear hi hset
    generalize askC l name = fc at *
    generalize l.length = n at *
    go_enter Tryz.func86, Tryz.ntmps86
    go_wp2_with fail
    refine (HA.out _ ((Below.refl _ _).alloc (Nat.le_refl _) _)).mono ?_
    rintro e w1 ⟨rfl, hb1⟩
    rw [World.size_alloc] at hb1
    obtain ⟨hz2, q0, q1, f0, f1, kb⟩ := heads_room hb1
    obtain ⟨r0, r1⟩ := two_set (v0 := .int .i64 fc) (v1 := .slice none 0 0) q0 q1
    clear hb1 HA
    go_wp2_with fail
    exact bodyPost_ret (v := .agg #[.int .i64 fc, .slice none 0 0]) (by simp [results, Tryz.results86, go_sem, r0, r1]) rfl ⟨HRes.mk ⟨rfl, rfl⟩ (OwnH.nil _ _), (kb.setCell (Nat.le_refl _) _).setCell (Nat.le_refl _) _⟩
end Go.Proofs.YtonnggelpjjmmaaGreatDoor
/-
  What JoinHeader and its model answer.
-/
namespace Go.Proofs.YtonnggelpjjmmaaGreatDoor
open Go.ChangeShapes Go.WideShapes Go.ChangeAt Go.RowKit Go.Sort
def anyV (vs : List ByteArray) : Bool := !vs.isEmpty
theorem anyV_snoc (vs : List ByteArray) (v : ByteArray) : anyV (vs ++ [v]) = true := by simp [anyV]
theorem hret_sb {a b : ByteArray} {c d : Bool} (h1 : a = b) (h2 : c = d) : Ending.returned (.tuple #[.string a, .bool c]) = .returned (.tuple #[.string b, .bool d]) := by rw [h1, h2]
set_option maxRecDepth 100000 in
set_option maxHeartbeats 8000000 in
theorem l4Join_any (w : World) (a : Option Addr) (cap : Nat) (l : List Hdr) (name : ByteArray) (h20 : l.length ≤ 20) (hz : ∀ (i : Nat) r, l[i]? = some r → r.name.size ≤ 64 ∧ r.value.size ≤ 200) (hnm : name.size ≤ 64) (hi : HdsIn w a l) :
    Calls Tryz.prog 37 #[.slice a l.length cap, .string name] w fun e w' => e = .returned (.tuple #[.string ⟨(hjoinL (valsOf (lowS name) l)).toArray⟩, .bool (anyV (valsOf (lowS name) l))]) ∧ Below w.heap.size w w' := by
  have HI : Hid (HdsIn w a l) := hi
  have HZ : Hid (∀ (i : Nat) r, l[i]? = some r → r.name.size ≤ 64 ∧ r.value.size ≤ 200) := hz
  clear hi hz
  generalize hn : l.length = n at *
  have HN : Hid (l.length = n) := hn
  clear hn
  go_enter Tryz.func37, Tryz.ntmps37
  go_wp2_with fail
  go_loopw [6, 7, 8] (fun v f i wr => ∃ (k : Nat) (o : ByteArray) (bf : Bool), k ≤ n ∧ i = .int .i64 k ∧ v = .string o ∧ f = .bool bf ∧ o.data.toList = hjoinL (valsOf (lowS name) (l.take k)) ∧ bf = anyV (valsOf (lowS name) (l.take k)) ∧ o.size ≤ k * 202 ∧ Below w.heap.size w wr) (fun _ _ i _ => n - (intOf i).toNat)
  case atStart => exact ⟨0, ⟨#[]⟩, false, Nat.zero_le _, rfl, rfl, rfl, rfl, rfl, Nat.zero_le _, Below.refl _ _⟩
  case round =>
    obtain ⟨k, o, bf, hk, rfl, rfl, rfl, ho, hbf, hos, hb⟩ := hrel
    have HO : Hid (o.data.toList = hjoinL (valsOf (lowS name) (l.take k))) := ho
    have HBF : Hid (bf = anyV (valsOf (lowS name) (l.take k))) := hbf
    clear ho hbf
    by_cases hlt : k < n
    · obtain ⟨r, hr⟩ : ∃ r, l[k]? = some r := ⟨l[k]'(by have := HN.out; omega), List.getElem?_eq_getElem _⟩
      obtain ⟨b, off, rfl, hat⟩ := HI.out.ok hr
      obtain ⟨p1, p3⟩ := (hat.keep hb) k r hr
      obtain ⟨z1, z2⟩ := HZ.out k r hr
      have HK : Hid (l.take (k + 1) = l.take k ++ [r]) := take_hdr hr
      have gk : (k : Int) < n := by omega
      clear hr hat HI HZ
      have KY := @valsOf_yes (lowS name) r (l.take k)
      have KN := @valsOf_no (lowS name) r (l.take k)
      obtain ⟨rn, rv⟩ := r
      simp only at p1 p3 z1 z2 KY KN
      have SA := fun w => l4Alike_any rn name w (by omega) (by omega)
      by_cases he : lowS rn = lowS name
      · have HX : Hid (valsOf (lowS name) (l.take (k + 1)) = valsOf (lowS name) (l.take k) ++ [rv]) := by show _ = _; rw [HK.out]; exact KY he
        have HSA : Hid (∀ w, Calls Tryz.prog 77 #[.string rn, .string name] w fun e w' => e = .returned (.bool true) ∧ Below w.heap.size w w') := by
          rw [show decide (lowS rn = lowS name) = true from by simpa using he] at SA
          exact SA
        have HY : Hid (anyV (valsOf (lowS name) (l.take (k + 1))) = true) := by show _ = _; rw [HX.out]; exact anyV_snoc _ _
        clear SA KY KN HK he
        cases bf
        · have HV : Hid (valsOf (lowS name) (l.take k) = []) := by
            show _ = _
            have := HBF.out
            simpa [anyV] using this.symm
          have HT : Hid ((o ++ rv : ByteArray).data.toList = hjoinL (valsOf (lowS name) (l.take (k + 1)))) := by
            show _ = _
            rw [HX.out, hjoinL_snoc, happ_list, HO.out, if_pos HV.out, List.append_nil]
          have HU : Hid ((o ++ rv : ByteArray).size ≤ (k + 1) * 202) := by
            show _ ≤ _
            rw [ByteArray.size_append]; omega
          have hoz : o.size ≤ 5000 := by omega
          clear HX HV HO HBF
          go_wp2_with fail
          refine (HSA.out _).mono ?_
          rintro e w2 ⟨rfl, hb2⟩
          have HB2 : Hid (Below w.heap.size w w2) := hb.trans (hb2.mono hb.size)
          have p1 := hkeep hb2 p1
          have p3 := hkeep hb2 p3
          clear hb2 hb
          go_wp2_with fail
          go_roundw
          case rel => exact ⟨k + 1, o ++ rv, true, by omega, by go_num, rfl, rfl, HT.out, HY.out.symm, HU.out, HB2.out⟩
          case measure => simp [intOf]; omega
        · have HV : Hid (¬ valsOf (lowS name) (l.take k) = []) := by
            have := HBF.out
            intro e
            rw [e] at this
            cases this
          have HT : Hid ((o ++ ⟨#[44, 32]⟩ ++ rv : ByteArray).data.toList = hjoinL (valsOf (lowS name) (l.take (k + 1)))) := by
            show _ = _
            rw [HX.out, hjoinL_snoc, happ_list, happ_list, HO.out, if_neg HV.out]
          have HU : Hid ((o ++ ⟨#[44, 32]⟩ ++ rv : ByteArray).size ≤ (k + 1) * 202) := by
            show _ ≤ _
            rw [ByteArray.size_append, ByteArray.size_append, show (⟨#[44, 32]⟩ : ByteArray).size = 2 from rfl]; omega
          have hoz : o.size ≤ 5000 := by omega
          clear HX HV HO HBF
          go_wp2_with fail
          refine (HSA.out _).mono ?_
          rintro e w2 ⟨rfl, hb2⟩
          have HB2 : Hid (Below w.heap.size w w2) := hb.trans (hb2.mono hb.size)
          have p1 := hkeep hb2 p1
          have p3 := hkeep hb2 p3
          clear hb2 hb
          go_wp2_with fail
          go_roundw
          case rel => exact ⟨k + 1, o ++ ⟨#[44, 32]⟩ ++ rv, true, by omega, by go_num, rfl, rfl, HT.out, HY.out.symm, HU.out, HB2.out⟩
          case measure => simp [intOf]; omega
      · have HX : Hid (valsOf (lowS name) (l.take (k + 1)) = valsOf (lowS name) (l.take k)) := by show _ = _; rw [HK.out]; exact KN he
        have HSA : Hid (∀ w, Calls Tryz.prog 77 #[.string rn, .string name] w fun e w' => e = .returned (.bool false) ∧ Below w.heap.size w w') := by
          rw [show decide (lowS rn = lowS name) = false from by simpa using he] at SA
          exact SA
        clear SA KY KN HK he
        go_wp2_with fail
        refine (HSA.out _).mono ?_
        rintro e w2 ⟨rfl, hb2⟩
        have HB2 : Hid (Below w.heap.size w w2) := hb.trans (hb2.mono hb.size)
        clear hb2 hb p1 p3
        go_wp2_with fail
        go_roundw
        case rel => exact ⟨k + 1, o, bf, by omega, by go_num, rfl, rfl, by rw [HX.out]; exact HO.out, by rw [HX.out]; exact HBF.out, by omega, HB2.out⟩
        case measure => simp [intOf]; omega
    · have ek : l.take k = l := List.take_of_length_le (by have := HN.out; omega)
      have HT : Hid ((⟨(hjoinL (valsOf (lowS name) l)).toArray⟩ : ByteArray) = o) := by
        show _ = _
        have := HO.out
        rw [ek] at this
        exact (hof_list this).symm
      have HF : Hid (anyV (valsOf (lowS name) l) = bf) := by
        have := HBF.out
        rw [ek] at this
        exact this.symm
      clear HO HBF ek
      go_wp2_with fail
      go_ret2
      exact ⟨hret_sb HT.out.symm HF.out.symm, hb⟩
end Go.Proofs.YtonnggelpjjmmaaGreatDoor
/-
  What the model's RequestFault answers.
-/
namespace Go.Proofs.YtonnggelpjjmmaaGreatDoor
open Go.ChangeShapes Go.WideShapes Go.ChangeAt Go.RowKit
def ltrI (c : Int) : Bool := (decide (97 ≤ c) && decide (c ≤ 122)) || (decide (65 ≤ c) && decide (c ≤ 90))
def digI (c : Int) : Bool := decide (48 ≤ c) && decide (c ≤ 57)
set_option maxHeartbeats 1000000 in
theorem l1Letter_any (c : Int) (w : World) :
    Calls Tryz.prog 73 #[.int .u8 c] w fun e w' => e = .returned (.bool (ltrI c)) ∧ w' = w := by
  have HE : Hid (ltrI c = ((decide (97 ≤ c) && decide (c ≤ 122)) || (decide (65 ≤ c) && decide (c ≤ 90)))) := rfl
  have KEY : Hid (∀ b : Bool, ltrI c = b → Ending.returned (.bool b) = .returned (.bool (ltrI c))) := fun b h => by rw [h]
  by_cases c3 : c < 65
  · have W : Hid (ltrI c = false) := by show _ = _; rw [HE.out]; simp; omega
    go_enter Tryz.func73, Tryz.ntmps73
    go_wp2
    go_ret
    exact ⟨KEY.out _ W.out, rfl⟩
  by_cases c4 : c ≤ 90
  · have W : Hid (ltrI c = true) := by show _ = _; rw [HE.out]; simp; omega
    have d1 : decide (c ≤ 90) = true := by simpa using c4
    go_enter Tryz.func73, Tryz.ntmps73
    go_wp2
    go_ret
    exact ⟨KEY.out _ W.out, rfl⟩
  have d4 : decide (c ≤ 90) = false := by simpa using c4
  by_cases c5 : c < 97
  · have W : Hid (ltrI c = false) := by show _ = _; rw [HE.out]; simp; omega
    go_enter Tryz.func73, Tryz.ntmps73
    go_wp2
    go_ret
    exact ⟨KEY.out _ W.out, rfl⟩
  by_cases c6 : c ≤ 122
  · have W : Hid (ltrI c = true) := by show _ = _; rw [HE.out]; simp; omega
    have d1 : decide (c ≤ 122) = true := by simpa using c6
    go_enter Tryz.func73, Tryz.ntmps73
    go_wp2
    go_ret
    exact ⟨KEY.out _ W.out, rfl⟩
  have d6 : decide (c ≤ 122) = false := by simpa using c6
  have W : Hid (ltrI c = false) := by show _ = _; rw [HE.out]; simp; omega
  go_enter Tryz.func73, Tryz.ntmps73
  go_wp2
  go_ret
  exact ⟨KEY.out _ W.out, rfl⟩
set_option maxHeartbeats 1000000 in
theorem l1Digit_any (c : Int) (w : World) :
    Calls Tryz.prog 74 #[.int .u8 c] w fun e w' => e = .returned (.bool (digI c)) ∧ w' = w := by
  have HE : Hid (digI c = (decide (48 ≤ c) && decide (c ≤ 57))) := rfl
  have KEY : Hid (∀ b : Bool, digI c = b → Ending.returned (.bool b) = .returned (.bool (digI c))) := fun b h => by rw [h]
  by_cases c3 : c < 48
  · have W : Hid (digI c = false) := by show _ = _; rw [HE.out]; simp; omega
    go_enter Tryz.func74, Tryz.ntmps74
    go_wp2
    go_ret
    exact ⟨KEY.out _ W.out, rfl⟩
  by_cases c4 : c ≤ 57
  · have W : Hid (digI c = true) := by show _ = _; rw [HE.out]; simp; omega
    have d1 : decide (c ≤ 57) = true := by simpa using c4
    go_enter Tryz.func74, Tryz.ntmps74
    go_wp2
    go_ret
    exact ⟨KEY.out _ W.out, rfl⟩
  have d4 : decide (c ≤ 57) = false := by simpa using c4
  have W : Hid (digI c = false) := by show _ = _; rw [HE.out]; simp; omega
  go_enter Tryz.func74, Tryz.ntmps74
  go_wp2
  go_ret
  exact ⟨KEY.out _ W.out, rfl⟩
theorem hostI_split (c : Int) : hostI c = (ltrI c || digI c || decide (c = 46) || decide (c = 45)) := rfl
set_option maxHeartbeats 4000000 in
theorem l5Host_mid (s : ByteArray) (w : World) (h1 : 1 ≤ s.size) (h2 : s.size ≤ 60) :
    Calls Tryz.prog 34 #[.string s] w fun e w' => e = .returned (.bool (allP hostI s.data.toList)) ∧ w' = w := by
  have g1 : ¬ (s.size : Int) < 1 := by omega
  have g2 : ¬ (60 : Int) < s.size := by omega
  go_enter Tryz.func34, Tryz.ntmps34
  go_wp2
  go_loop [3] (fun i => ∃ k : Nat, k ≤ s.size ∧ i = .int .i64 k ∧ allP hostI (s.data.toList.take k) = true) (fun i => s.size - (intOf i).toNat)
  case atStart => exact ⟨0, Nat.zero_le _, rfl, rfl⟩
  case round =>
    obtain ⟨k, hk, rfl, hall⟩ := hrel
    by_cases hlt : k < s.size
    · have HY : Hid (hostI (s[k].toNat : Int) = true → allP hostI (s.data.toList.take (k + 1)) = true) := fun hw => by
        rw [take_snoc s k hlt, allP_snoc, hall, hw]; rfl
      have HN : Hid (hostI (s[k].toNat : Int) = false → allP hostI s.data.toList = false) := allP_not hostI s k hlt
      have HI := hostI_split (s[k].toNat : Int)
      have CL := l1Letter_any (s[k].toNat : Int) w
      have CD := l1Digit_any (s[k].toNat : Int) w
      clear hall
      cases hl : ltrI (s[k].toNat : Int)
      · rw [hl] at CL HI
        cases hd : digI (s[k].toNat : Int)
        · rw [hd] at CD HI
          by_cases e1 : (s[k].toNat : Int) = 46
          · have HA : Hid (allP hostI (s.data.toList.take (k + 1)) = true) := HY.out (by rw [HI]; simp [e1])
            have n1 : ((s[k].toNat : Int) != 46) = false := by rw [e1]; rfl
            clear HY HN HI hl hd e1
            go_wp2_with (first | (go_at_call 73; refine CL.mono ?_; rintro e w' ⟨rfl, rfl⟩) | (go_at_call 74; refine CD.mono ?_; rintro e w' ⟨rfl, rfl⟩))
            go_round
            case rel => exact ⟨k + 1, by omega, by go_num, HA.out⟩
            case measure => simp [intOf]; omega
          · by_cases e2 : (s[k].toNat : Int) = 45
            · have HA : Hid (allP hostI (s.data.toList.take (k + 1)) = true) := HY.out (by rw [HI]; simp [e2])
              have n1 : ((s[k].toNat : Int) != 46) = true := by simpa using e1
              have n2 : ((s[k].toNat : Int) != 45) = false := by rw [e2]; rfl
              clear HY HN HI hl hd e1 e2
              go_wp2_with (first | (go_at_call 73; refine CL.mono ?_; rintro e w' ⟨rfl, rfl⟩) | (go_at_call 74; refine CD.mono ?_; rintro e w' ⟨rfl, rfl⟩))
              go_round
              case rel => exact ⟨k + 1, by omega, by go_num, HA.out⟩
              case measure => simp [intOf]; omega
            · have HA : Hid (allP hostI s.data.toList = false) := HN.out (by rw [HI]; simp [e1, e2])
              have n1 : ((s[k].toNat : Int) != 46) = true := by simpa using e1
              have n2 : ((s[k].toNat : Int) != 45) = true := by simpa using e2
              clear HY HN HI hl hd e1 e2
              go_wp2_with (first | (go_at_call 73; refine CL.mono ?_; rintro e w' ⟨rfl, rfl⟩) | (go_at_call 74; refine CD.mono ?_; rintro e w' ⟨rfl, rfl⟩))
              go_ret
              exact ⟨ret_bool HA.out.symm, rfl⟩
        · rw [hd] at CD HI
          have HA : Hid (allP hostI (s.data.toList.take (k + 1)) = true) := HY.out (by rw [HI]; rfl)
          clear HY HN HI hl hd
          go_wp2_with (first | (go_at_call 73; refine CL.mono ?_; rintro e w' ⟨rfl, rfl⟩) | (go_at_call 74; refine CD.mono ?_; rintro e w' ⟨rfl, rfl⟩))
          go_round
          case rel => exact ⟨k + 1, by omega, by go_num, HA.out⟩
          case measure => simp [intOf]; omega
      · rw [hl] at CL HI
        have HA : Hid (allP hostI (s.data.toList.take (k + 1)) = true) := HY.out (by rw [HI]; rfl)
        clear HY HN HI hl
        go_wp2_with (first | (go_at_call 73; refine CL.mono ?_; rintro e w' ⟨rfl, rfl⟩) | (go_at_call 74; refine CD.mono ?_; rintro e w' ⟨rfl, rfl⟩))
        go_round
        case rel => exact ⟨k + 1, by omega, by go_num, HA.out⟩
        case measure => simp [intOf]; omega
    · have ek : s.data.toList.take k = s.data.toList := List.take_of_length_le (by simp; omega)
      rw [ek] at hall
      have HN : Hid (allP hostI s.data.toList = true) := hall
      clear ek hall
      go_wp2
      go_ret
      exact ⟨ret_bool HN.out.symm, rfl⟩
set_option maxHeartbeats 1000000 in
theorem l5Host_any (s : ByteArray) (w : World) :
    Calls Tryz.prog 34 #[.string s] w fun e w' => e = .returned (.bool (hostS s)) ∧ w' = w := by
  by_cases c1 : s.size < 1
  · rw [hostS_short s c1]
    have hh : (s.size : Int) < 1 := by omega
    go_enter Tryz.func34, Tryz.ntmps34
    go_wp2
    go_ret
    exact ⟨rfl, rfl⟩
  by_cases c2 : 60 < s.size
  · rw [hostS_long s c2]
    have hh : (60 : Int) < s.size := by omega
    have h1 : ¬ (s.size : Int) < 1 := by omega
    go_enter Tryz.func34, Tryz.ntmps34
    go_wp2
    go_ret
    exact ⟨rfl, rfl⟩
  rw [hostS_mid s (by omega) (by omega)]
  exact l5Host_mid s w (by omega) (by omega)
set_option maxHeartbeats 1000000 in
theorem l5PathByte_else (c : Int) (w : World) (h0 : 0 ≤ c) (h1 : c < 256) (hm : markI c.toNat = false) :
    Calls Tryz.prog 75 #[.int .u8 c] w fun e w' => e = .returned (.bool (pathI c)) ∧ w' = w := by
  have HP : pathI c = wordI c := by rw [pathI, hm]; rfl
  rw [HP]
  clear HP
  obtain ⟨n, rfl⟩ := Int.eq_ofNat_of_zero_le h0
  simp only [Int.toNat_natCast, markI, List.contains_eq_mem, List.mem_cons, List.not_mem_nil, or_false, decide_eq_false_iff_not, not_or] at hm
  obtain ⟨s0, s1, s2, s3, s4, s5, s6, s7, s8, s9⟩ := hm
  have t0 : ((n : Int) == 47) = false := by simp; omega
  have t1 : ((n : Int) == 63) = false := by simp; omega
  have t2 : ((n : Int) == 61) = false := by simp; omega
  have t3 : ((n : Int) == 38) = false := by simp; omega
  have t4 : ((n : Int) == 58) = false := by simp; omega
  have t5 : ((n : Int) == 64) = false := by simp; omega
  have t6 : ((n : Int) == 44) = false := by simp; omega
  have t7 : ((n : Int) == 59) = false := by simp; omega
  have t8 : ((n : Int) == 40) = false := by simp; omega
  have t9 : ((n : Int) == 41) = false := by simp; omega
  clear s0 s1 s2 s3 s4 s5 s6 s7 s8 s9
  generalize (n : Int) = c at *
  have C := wordByte_any c w h0 h1
  go_enter Tryz.func75, Tryz.ntmps75
  go_wp2_with fail
  refine C.mono ?_
  rintro e w' ⟨rfl, rfl⟩
  go_wp2_with fail
  go_ret
  exact ⟨rfl, rfl⟩
set_option maxHeartbeats 400000 in
theorem l5PathByte_47 (w : World) :
    Calls Tryz.prog 75 #[.int .u8 47] w fun e w' => e = .returned (.bool (pathI 47)) ∧ w' = w := by
  have W : pathI 47 = true := by decide +kernel
  rw [W]
  clear W
  go_enter Tryz.func75, Tryz.ntmps75
  go_wp2_with fail
  go_ret
  exact ⟨rfl, rfl⟩
set_option maxHeartbeats 400000 in
theorem l5PathByte_63 (w : World) :
    Calls Tryz.prog 75 #[.int .u8 63] w fun e w' => e = .returned (.bool (pathI 63)) ∧ w' = w := by
  have W : pathI 63 = true := by decide +kernel
  rw [W]
  clear W
  go_enter Tryz.func75, Tryz.ntmps75
  go_wp2_with fail
  go_ret
  exact ⟨rfl, rfl⟩
set_option maxHeartbeats 400000 in
theorem l5PathByte_61 (w : World) :
    Calls Tryz.prog 75 #[.int .u8 61] w fun e w' => e = .returned (.bool (pathI 61)) ∧ w' = w := by
  have W : pathI 61 = true := by decide +kernel
  rw [W]
  clear W
  go_enter Tryz.func75, Tryz.ntmps75
  go_wp2_with fail
  go_ret
  exact ⟨rfl, rfl⟩
set_option maxHeartbeats 400000 in
theorem l5PathByte_38 (w : World) :
    Calls Tryz.prog 75 #[.int .u8 38] w fun e w' => e = .returned (.bool (pathI 38)) ∧ w' = w := by
  have W : pathI 38 = true := by decide +kernel
  rw [W]
  clear W
  go_enter Tryz.func75, Tryz.ntmps75
  go_wp2_with fail
  go_ret
  exact ⟨rfl, rfl⟩
set_option maxHeartbeats 400000 in
theorem l5PathByte_58 (w : World) :
    Calls Tryz.prog 75 #[.int .u8 58] w fun e w' => e = .returned (.bool (pathI 58)) ∧ w' = w := by
  have W : pathI 58 = true := by decide +kernel
  rw [W]
  clear W
  go_enter Tryz.func75, Tryz.ntmps75
  go_wp2_with fail
  go_ret
  exact ⟨rfl, rfl⟩
set_option maxHeartbeats 400000 in
theorem l5PathByte_64 (w : World) :
    Calls Tryz.prog 75 #[.int .u8 64] w fun e w' => e = .returned (.bool (pathI 64)) ∧ w' = w := by
  have W : pathI 64 = true := by decide +kernel
  rw [W]
  clear W
  go_enter Tryz.func75, Tryz.ntmps75
  go_wp2_with fail
  go_ret
  exact ⟨rfl, rfl⟩
set_option maxHeartbeats 400000 in
theorem l5PathByte_44 (w : World) :
    Calls Tryz.prog 75 #[.int .u8 44] w fun e w' => e = .returned (.bool (pathI 44)) ∧ w' = w := by
  have W : pathI 44 = true := by decide +kernel
  rw [W]
  clear W
  go_enter Tryz.func75, Tryz.ntmps75
  go_wp2_with fail
  go_ret
  exact ⟨rfl, rfl⟩
set_option maxHeartbeats 400000 in
theorem l5PathByte_59 (w : World) :
    Calls Tryz.prog 75 #[.int .u8 59] w fun e w' => e = .returned (.bool (pathI 59)) ∧ w' = w := by
  have W : pathI 59 = true := by decide +kernel
  rw [W]
  clear W
  go_enter Tryz.func75, Tryz.ntmps75
  go_wp2_with fail
  go_ret
  exact ⟨rfl, rfl⟩
set_option maxHeartbeats 400000 in
theorem l5PathByte_40 (w : World) :
    Calls Tryz.prog 75 #[.int .u8 40] w fun e w' => e = .returned (.bool (pathI 40)) ∧ w' = w := by
  have W : pathI 40 = true := by decide +kernel
  rw [W]
  clear W
  go_enter Tryz.func75, Tryz.ntmps75
  go_wp2_with fail
  go_ret
  exact ⟨rfl, rfl⟩
set_option maxHeartbeats 400000 in
theorem l5PathByte_41 (w : World) :
    Calls Tryz.prog 75 #[.int .u8 41] w fun e w' => e = .returned (.bool (pathI 41)) ∧ w' = w := by
  have W : pathI 41 = true := by decide +kernel
  rw [W]
  clear W
  go_enter Tryz.func75, Tryz.ntmps75
  go_wp2_with fail
  go_ret
  exact ⟨rfl, rfl⟩
theorem l5PathByte_any (c : Int) (w : World) (h0 : 0 ≤ c) (h1 : c < 256) :
    Calls Tryz.prog 75 #[.int .u8 c] w fun e w' => e = .returned (.bool (pathI c)) ∧ w' = w := by
  cases h : markI c.toNat
  · exact l5PathByte_else c w h0 h1 h
  · obtain ⟨n, rfl⟩ := Int.eq_ofNat_of_zero_le h0
    simp only [Int.toNat_natCast, markI, List.contains_eq_mem, List.mem_cons, List.not_mem_nil, or_false, decide_eq_true_eq] at h
    rcases h with rfl | rfl | rfl | rfl | rfl | rfl | rfl | rfl | rfl | rfl
    · exact l5PathByte_47 w
    · exact l5PathByte_63 w
    · exact l5PathByte_61 w
    · exact l5PathByte_38 w
    · exact l5PathByte_58 w
    · exact l5PathByte_64 w
    · exact l5PathByte_44 w
    · exact l5PathByte_59 w
    · exact l5PathByte_40 w
    · exact l5PathByte_41 w
set_option maxHeartbeats 2000000 in
theorem l5Path_mid (s : ByteArray) (w : World) (h0 : 0 < s.size) (hf : (s[0].toNat : Int) = 47) (h2 : s.size ≤ 100) :
    Calls Tryz.prog 35 #[.string s] w fun e w' => e = .returned (.bool (allP pathI s.data.toList)) ∧ w' = w := by
  have g1 : ¬ (s.size : Int) < 1 := by omega
  have g2 : ¬ (100 : Int) < s.size := by omega
  go_enter Tryz.func35, Tryz.ntmps35
  go_wp2
  clear hf
  go_loop [3] (fun i => ∃ k : Nat, k ≤ s.size ∧ i = .int .i64 k ∧ allP pathI (s.data.toList.take k) = true) (fun i => s.size - (intOf i).toNat)
  case atStart => exact ⟨0, Nat.zero_le _, rfl, rfl⟩
  case round =>
    obtain ⟨k, hk, rfl, hall⟩ := hrel
    by_cases hlt : k < s.size
    · have hb : ((s[k].toNat : Nat) : Int) < 256 := by have := s[k].toNat_lt; omega
      have C := l5PathByte_any (s[k].toNat : Int) w (by omega) hb
      cases hw : pathI (s[k].toNat : Int)
      · have HN : Hid (allP pathI s.data.toList = false) := allP_not pathI s k hlt hw
        rw [hw] at C
        clear hall hw
        go_wp2_with fail
        refine C.mono ?_
        rintro e w' ⟨rfl, rfl⟩
        go_wp2_with fail
        go_ret
        exact ⟨ret_bool HN.out.symm, rfl⟩
      · have HA : Hid (allP pathI (s.data.toList.take (k + 1)) = true) := by
          show _ = _
          rw [take_snoc s k hlt, allP_snoc, hall, hw]; rfl
        rw [hw] at C
        clear hall hw
        go_wp2_with fail
        refine C.mono ?_
        rintro e w' ⟨rfl, rfl⟩
        go_wp2_with fail
        go_round
        case rel => exact ⟨k + 1, by omega, by go_num, HA.out⟩
        case measure => simp [intOf]; omega
    · have ek : s.data.toList.take k = s.data.toList := List.take_of_length_le (by simp; omega)
      rw [ek] at hall
      have HN : Hid (allP pathI s.data.toList = true) := hall
      clear ek hall
      go_wp2
      go_ret
      exact ⟨ret_bool HN.out.symm, rfl⟩
set_option maxHeartbeats 1000000 in
theorem l5Path_any (s : ByteArray) (w : World) :
    Calls Tryz.prog 35 #[.string s] w fun e w' => e = .returned (.bool (pathS s)) ∧ w' = w := by
  by_cases c1 : s.size < 1
  · rw [pathS_first s (by rw [head_none s c1]; simp)]
    have hh : (s.size : Int) < 1 := by omega
    go_enter Tryz.func35, Tryz.ntmps35
    go_wp2
    go_ret
    exact ⟨rfl, rfl⟩
  have h1 : ¬ (s.size : Int) < 1 := by omega
  by_cases c2 : 100 < s.size
  · rw [pathS_long s c2]
    have hh : (100 : Int) < s.size := by omega
    go_enter Tryz.func35, Tryz.ntmps35
    go_wp2
    go_ret
    exact ⟨rfl, rfl⟩
  have g2 : ¬ (100 : Int) < s.size := by omega
  have hd := head_get s (by omega)
  have g0 : 0 < s.size := by omega
  by_cases c3 : (s[0].toNat : Int) = 47
  · have e3 : s[0] = 47 := UInt8.toNat_inj.1 (by simpa using (by omega : s[0].toNat = 47))
    rw [pathS_mid s (by rw [hd, e3]) (by omega)]
    exact l5Path_mid s w (by omega) c3 (by omega)
  · rw [pathS_first s (by rw [hd]; intro e; exact c3 (by rw [Option.some.inj e]; rfl))]
    have c3' : ((s[0].toNat : Int) == 47) = false := by simpa using c3
    clear hd
    go_enter Tryz.func35, Tryz.ntmps35
    go_wp2
    go_ret
    exact ⟨rfl, rfl⟩
end Go.Proofs.YtonnggelpjjmmaaGreatDoor
/-
  isHost and isPath: what they answer.
-/
namespace Go.Proofs.YtonnggelpjjmmaaGreatDoor
open Go.ChangeShapes Go.WideShapes Go.ChangeAt Go.RowKit
set_option maxHeartbeats 2000000 in
theorem isHostLetter_any (c : Int) (w : World) :
    Calls Tryz.prog 118 #[.int .i32 c] w fun e w' => e = .returned (.bool (hostI c)) ∧ w' = w := by
  have HE : Hid (hostI c = ((decide (97 ≤ c) && decide (c ≤ 122)) || (decide (65 ≤ c) && decide (c ≤ 90)) || (decide (48 ≤ c) && decide (c ≤ 57)) || decide (c = 46) || decide (c = 45))) := rfl
  have KEY : Hid (∀ b : Bool, hostI c = b → Ending.returned (.bool b) = .returned (.bool (hostI c))) := fun b h => by rw [h]
  by_cases e1 : c = 45
  · subst e1
    have W : Hid (hostI 45 = true) := by show _ = _; decide
    go_enter Tryz.func118, Tryz.ntmps118
    go_wp2
    go_ret
    exact ⟨KEY.out _ W.out, rfl⟩
  by_cases e2 : c = 46
  · subst e2
    have W : Hid (hostI 46 = true) := by show _ = _; decide
    go_enter Tryz.func118, Tryz.ntmps118
    go_wp2
    go_ret
    exact ⟨KEY.out _ W.out, rfl⟩
  have f1 : (c == 45) = false := by simpa using e1
  have f2 : (c == 46) = false := by simpa using e2
  by_cases c1 : c < 48
  · have W : Hid (hostI c = false) := by show _ = _; rw [HE.out]; simp; omega
    go_enter Tryz.func118, Tryz.ntmps118
    go_wp2
    go_ret
    exact ⟨KEY.out _ W.out, rfl⟩
  by_cases c2 : c ≤ 57
  · have W : Hid (hostI c = true) := by show _ = _; rw [HE.out]; simp; omega
    have d1 : decide (c ≤ 57) = true := by simpa using c2
    go_enter Tryz.func118, Tryz.ntmps118
    go_wp2
    go_ret
    exact ⟨KEY.out _ W.out, rfl⟩
  have d2 : decide (c ≤ 57) = false := by simpa using c2
  by_cases c3 : c < 65
  · have W : Hid (hostI c = false) := by show _ = _; rw [HE.out]; simp; omega
    go_enter Tryz.func118, Tryz.ntmps118
    go_wp2
    go_ret
    exact ⟨KEY.out _ W.out, rfl⟩
  by_cases c4 : c ≤ 90
  · have W : Hid (hostI c = true) := by show _ = _; rw [HE.out]; simp; omega
    have d1 : decide (c ≤ 90) = true := by simpa using c4
    go_enter Tryz.func118, Tryz.ntmps118
    go_wp2
    go_ret
    exact ⟨KEY.out _ W.out, rfl⟩
  have d4 : decide (c ≤ 90) = false := by simpa using c4
  by_cases c5 : c < 97
  · have W : Hid (hostI c = false) := by show _ = _; rw [HE.out]; simp; omega
    go_enter Tryz.func118, Tryz.ntmps118
    go_wp2
    go_ret
    exact ⟨KEY.out _ W.out, rfl⟩
  by_cases c6 : c ≤ 122
  · have W : Hid (hostI c = true) := by show _ = _; rw [HE.out]; simp; omega
    have d1 : decide (c ≤ 122) = true := by simpa using c6
    go_enter Tryz.func118, Tryz.ntmps118
    go_wp2
    go_ret
    exact ⟨KEY.out _ W.out, rfl⟩
  have d6 : decide (c ≤ 122) = false := by simpa using c6
  have W : Hid (hostI c = false) := by show _ = _; rw [HE.out]; simp; omega
  go_enter Tryz.func118, Tryz.ntmps118
  go_wp2
  go_ret
  exact ⟨KEY.out _ W.out, rfl⟩
theorem below_iter (w : World) (s : ByteArray) (pos : Nat) : Below w.heap.size w (w.iter s pos) := (Below.refl _ _).alloc (Nat.le_refl _) _
theorem rune_host (s : ByteArray) (pos : Nat) (h : pos < s.size) : hostI ((Utf8.decode s pos).1 : Int) = hostI (s[pos].toNat : Int) := by
  by_cases ha : (s[pos]'h).toNat < 128
  · rw [decode_ascii s pos h ha]
  · have := (decode_high s pos h (by omega)).1
    rw [hostI_big _ (by omega), hostI_big _ (by omega)]
theorem host_ascii {c : Nat} (h : hostI (c : Int) = true) : c < 128 := by
  by_cases k : c < 128
  · exact k
  · rw [hostI_big _ (by omega)] at h; cases h
set_option maxHeartbeats 4000000 in
set_option maxRecDepth 100000 in
theorem isHost_mid (s : ByteArray) (w : World) (h1 : 1 ≤ s.size) (h2 : s.size ≤ 60) :
    Calls Tryz.prog 79 #[.string s] w fun e w' => e = .returned (.bool (allP hostI s.data.toList)) ∧ Below w.heap.size w w' := by
  have g1 : ¬ (s.size : Int) < 1 := by omega
  have g2 : ¬ (60 : Int) < s.size := by omega
  go_enter Tryz.func79, Tryz.ntmps79
  go_wp2
  go_loopw [2] (fun b w' => ∃ pos : Nat, b = .bool false ∧ w' = w.iter s pos ∧ pos ≤ s.size ∧ allP hostI (s.data.toList.take pos) = true) (fun _ w' => s.size - w'.iterPos w.heap.size)
  case atStart => exact ⟨0, rfl, rfl, Nat.zero_le _, rfl⟩
  case round =>
    obtain ⟨pos, rfl, rfl, hp, hall⟩ := hrel
    by_cases hlt : pos < s.size
    · have hnx : ∀ ty, (Instr.next (.pointer (some ⟨w.heap.size, 0, none⟩)) true ty).run Tryz.prog (w.iter s pos) = _ := fun ty => run_next_any w s pos ty hlt
      have HR := rune_host s pos hlt
      have CL := fun W => isHostLetter_any ((Utf8.decode s pos).1 : Int) W
      cases hw : hostI (s[pos].toNat : Int)
      · have HN : Hid (allP hostI s.data.toList = false) := allP_not hostI s pos hlt hw
        rw [hw] at HR
        simp only [HR] at CL
        clear hall hw HR
        generalize Utf8.decode s pos = D at *
        go_wp2_with fail
        refine (CL _).mono ?_
        rintro e w' ⟨rfl, rfl⟩
        go_wp2_with fail
        go_ret
        exact ⟨ret_bool HN.out.symm, below_iter _ _ _⟩
      · have HA : Hid (allP hostI (s.data.toList.take (pos + 1)) = true) := by
          show _ = _
          rw [take_snoc s pos hlt, allP_snoc, hall, hw]; rfl
        have hd := decode_ascii s pos hlt (host_ascii hw)
        rw [hw] at HR
        simp only [HR] at CL
        rw [hd] at hnx CL
        clear hall hw HR hd
        simp only at hnx CL
        go_wp2_with fail
        refine (CL _).mono ?_
        rintro e w' ⟨rfl, rfl⟩
        go_wp2_with fail
        go_roundw
        case rel => exact ⟨pos + 1, rfl, rfl, by omega, HA.out⟩
        case measure => simp; omega
    · have hnx : ∀ ty, (Instr.next (.pointer (some ⟨w.heap.size, 0, none⟩)) true ty).run Tryz.prog (w.iter s pos) = _ := fun ty => run_next_end w s pos ty hlt
      have ek : s.data.toList.take pos = s.data.toList := List.take_of_length_le (by simp; omega)
      rw [ek] at hall
      have HN : Hid (allP hostI s.data.toList = true) := hall
      clear ek hall
      go_wp2
      go_ret
      exact ⟨ret_bool HN.out.symm, below_iter _ _ _⟩
set_option maxHeartbeats 1000000 in
theorem isHost_any (s : ByteArray) (w : World) :
    Calls Tryz.prog 79 #[.string s] w fun e w' => e = .returned (.bool (hostS s)) ∧ Below w.heap.size w w' := by
  by_cases c1 : s.size < 1
  · rw [hostS_short s c1]
    have hh : (s.size : Int) < 1 := by omega
    go_enter Tryz.func79, Tryz.ntmps79
    go_wp2
    go_ret
    exact ⟨rfl, Below.refl _ _⟩
  by_cases c2 : 60 < s.size
  · rw [hostS_long s c2]
    have hh : (60 : Int) < s.size := by omega
    have h1 : ¬ (s.size : Int) < 1 := by omega
    go_enter Tryz.func79, Tryz.ntmps79
    go_wp2
    go_ret
    exact ⟨rfl, Below.refl _ _⟩
  rw [hostS_mid s (by omega) (by omega)]
  exact isHost_mid s w (by omega) (by omega)
/-! ### the bytes of a path -/
set_option maxHeartbeats 1000000 in
theorem hasOnly_gen (p : Int → Bool) (hp : ∀ c, 128 ≤ c → p c = false) (s : ByteArray) (cs : Array Value) (w : World) (hs : s.size ≤ 1000) (hcs : ∀ i : Nat, i < 128 → cs[i]? = some (.bool (p (i : Int)))) :
    Calls Tryz.prog 93 #[.string s, .agg cs] w fun e w' => e = .returned (.bool (allP p s.data.toList)) ∧ Below w.heap.size w w' := by
  have hcell : ∀ i : Nat, i < 128 → (w.alloc (.cells cs 123)).cell? ⟨w.heap.size, i, none⟩ = some (.bool (p (i : Int))) := fun i hi => by
    rw [World.cell?_alloc_mark]; exact hcs i hi
  have HC : Hid (∀ i : Nat, i < 128 → (w.alloc (.cells cs 123)).cell? ⟨w.heap.size, i, none⟩ = some (.bool (p (i : Int)))) := hcell
  have HP : Hid (∀ c, 128 ≤ c → p c = false) := hp
  clear hcell hcs hp
  go_enter Tryz.func93, Tryz.ntmps93
  go_wp2
  go_loop [9] (fun i => ∃ k : Nat, k ≤ s.size ∧ i = .int .i64 k ∧ allP p (s.data.toList.take k) = true) (fun i => s.size - (intOf i).toNat)
  case atStart => exact ⟨0, Nat.zero_le _, rfl, rfl⟩
  case round =>
    obtain ⟨k, hk, rfl, hall⟩ := hrel
    by_cases hlt : k < s.size
    · have hb : ((s[k].toNat : Nat) : Int) < 256 := by have := s[k].toNat_lt; omega
      by_cases hbig : 128 ≤ (s[k].toNat : Int)
      · have HN : Hid (allP p s.data.toList = false) := allP_not p s k hlt (HP.out _ hbig)
        clear hall
        go_wp2
        go_ret
        exact ⟨ret_bool HN.out.symm, (Below.refl _ _).alloc (Nat.le_refl _) _⟩
      · have hc := HC.out s[k].toNat (by omega)
        cases hw : p (s[k].toNat : Int)
        · have HN : Hid (allP p s.data.toList = false) := allP_not p s k hlt hw
          rw [hw] at hc
          clear hall hw
          go_wp2
          go_ret
          exact ⟨ret_bool HN.out.symm, (Below.refl _ _).alloc (Nat.le_refl _) _⟩
        · have HA : Hid (allP p (s.data.toList.take (k + 1)) = true) := by
            show _ = _
            rw [take_snoc s k hlt, allP_snoc, hall, hw]; rfl
          rw [hw] at hc
          clear hall hw
          go_wp2
          go_round
          case rel => exact ⟨k + 1, by omega, by go_num, HA.out⟩
          case measure => simp [intOf]; omega
    · have ek : s.data.toList.take k = s.data.toList := List.take_of_length_le (by simp; omega)
      rw [ek] at hall
      have HN : Hid (allP p s.data.toList = true) := hall
      clear ek hall
      go_wp2
      go_ret
      exact ⟨ret_bool HN.out.symm, (Below.refl _ _).alloc (Nat.le_refl _) _⟩
end Go.Proofs.YtonnggelpjjmmaaGreatDoor
/-
  pathBytes: the word bytes and ten marks; isPath.
-/
namespace Go.Proofs.YtonnggelpjjmmaaGreatDoor
open Go.ChangeShapes Go.WideShapes Go.ChangeAt Go.RowKit
def marksS : ByteArray := ⟨#[47, 63, 61, 38, 58, 64, 44, 59, 40, 41]⟩
def marksN : List Nat := [47, 63, 61, 38, 58, 64, 44, 59, 40, 41]
def markAt (pos : Nat) : Nat := marksN.getD pos 0
theorem markAt_eq (pos : Nat) (h : pos < marksS.size) : (marksS[pos]'h).toNat = markAt pos := by
  have : pos < 10 := h
  match pos, this with
  | 0, _ | 1, _ | 2, _ | 3, _ | 4, _ | 5, _ | 6, _ | 7, _ | 8, _ | 9, _ => rfl
theorem markAt_lt (pos : Nat) : markAt pos < 128 := by
  by_cases h : pos < 10
  · match pos, h with
    | 0, _ | 1, _ | 2, _ | 3, _ | 4, _ | 5, _ | 6, _ | 7, _ | 8, _ | 9, _ => decide
  · unfold markAt
    rw [List.getD_eq_getElem?_getD, List.getElem?_eq_none (by simp [marksN]; omega)]
    decide
def pathAt (pos i : Nat) : Bool := (marksN.take pos).contains i || wordI (i : Int)
theorem pathAt_zero (i : Nat) : pathAt 0 i = wordI (i : Int) := rfl
theorem pathAt_end (i : Nat) : pathAt 10 i = pathI (i : Int) := rfl
theorem take_marks (pos i : Nat) (h : pos < 10) : (marksN.take (pos + 1)).contains i = ((marksN.take pos).contains i || i == markAt pos) := by
  have e : marksN.take (pos + 1) = marksN.take pos ++ [markAt pos] := by
    match pos, h with
    | 0, _ | 1, _ | 2, _ | 3, _ | 4, _ | 5, _ | 6, _ | 7, _ | 8, _ | 9, _ => rfl
  rw [e, Bool.eq_iff_iff]
  simp
theorem pathAt_same (pos : Nat) (h : pos < 10) : pathAt (pos + 1) (markAt pos) = true := by
  rw [pathAt, take_marks pos _ h]; simp
theorem pathAt_other (pos i : Nat) (h : pos < 10) (hi : i ≠ markAt pos) : pathAt (pos + 1) i = pathAt pos i := by
  rw [pathAt, take_marks pos _ h, beq_eq_false_iff_ne.2 hi, Bool.or_false]; rfl
structure PathW (w : World) (pos : Nat) (wr : World) : Prop where
  it : wr.heap[w.heap.size + 2]? = some (.stringIter marksS pos)
  b0 : wr.heap[w.heap.size]? = some (.cells Tryz.zeroCells123 123 (0, 0))
  b1 : ∃ cs, wr.heap[w.heap.size + 1]? = some (.cells cs 123 (0, 0)) ∧ cs.size = 128 ∧ ∀ i : Nat, i < 128 → cs[i]? = some (.bool (pathAt pos i))
  le : pos ≤ 10
  bel : Below w.heap.size w wr
theorem PathW.cell {w wr : World} {pos : Nat} (h : PathW w pos wr) (i : Nat) (hi : i < 128) : wr.cell? ⟨w.heap.size + 1, i, none⟩ = some (.bool (pathAt pos i)) ∧ wr.frozen? ⟨w.heap.size + 1, i, none⟩ = false := by
  obtain ⟨cs, h1, h2, h3⟩ := h.b1
  exact ⟨by simp [World.cell?, h1, h3 i hi], by simp [World.frozen?, h1]⟩
theorem PathW.next {w wr : World} {pos : Nat} (h : PathW w pos wr) (hp : pos < 10) : PathW w (pos + 1) ((wr.iterAt (w.heap.size + 2) marksS (pos + 1)).setCell ⟨w.heap.size + 1, markAt pos, none⟩ (.bool true)) := by
  obtain ⟨cs, h1, h2, h3⟩ := h.b1
  have o : ∀ k, k ≠ w.heap.size + 2 → (wr.iterAt (w.heap.size + 2) marksS (pos + 1)).heap[k]? = wr.heap[k]? := fun k hk => Lib.iterAt_other _ _ _ _ _ hk
  have h1' : (wr.iterAt (w.heap.size + 2) marksS (pos + 1)).heap[w.heap.size + 1]? = some (.cells cs 123 (0, 0)) := by rw [o _ (by omega)]; exact h1
  refine ⟨?_, ?_, ⟨_, heap_setCell_same _ _ _ _ _ _ h1', by simpa using h2, fun i hi => ?_⟩, by omega, ?_⟩
  · rw [heap_setCell_other _ _ _ _ (by simp)]; exact Lib.iterAt_heap _ _ _ _ _ h.it
  · rw [heap_setCell_other _ _ _ _ (by simp), o _ (by omega)]; exact h.b0
  · by_cases e : i = markAt pos
    · subst e
      rw [Array.getElem?_setIfInBounds_self_of_lt (by omega), pathAt_same pos hp]
    · rw [Array.getElem?_setIfInBounds_ne (by omega), h3 i hi, pathAt_other pos i hp e]
  · refine Below.setCell ?_ (by simp) _
    exact ⟨h.bel.os, h.bel.tape, h.bel.output, by simpa [World.iterAt] using h.bel.size, fun k hk => by rw [o k (by omega)]; exact h.bel.block k hk⟩
theorem zeroSet_size : (Tryz.zeroCells123).size = 128 := by kernel_rfl
theorem all_bools {cs : Array Value} {f : Nat → Bool} (hsz : cs.size = 128) (h : ∀ i : Nat, i < 128 → cs[i]? = some (.bool (f i))) : cs.all (·.oneCell') = true := by
  rw [Array.all_eq_true]
  intro i hi
  have e := h i (by omega)
  rw [Array.getElem?_eq_getElem hi] at e
  rw [Option.some.inj e]; rfl
theorem path_start {w : World} {cs : Array Value} (hsz : cs.size = 128) (hcs : ∀ i : Nat, i < 128 → cs[i]? = some (.bool (wordI (i : Int)))) :
    PathW w 0 ((((w.alloc (.cells Tryz.zeroCells123 123)).alloc (.cells Tryz.zeroCells123 123)).setRow (w.heap.size + 1) cs).iter marksS 0) := by
  have hz : ((w.alloc (.cells Tryz.zeroCells123 123)).alloc (.cells Tryz.zeroCells123 123)).heap.size = w.heap.size + 2 := by simp
  have h1 : ((w.alloc (.cells Tryz.zeroCells123 123)).alloc (.cells Tryz.zeroCells123 123)).heap[w.heap.size + 1]? = some (.cells Tryz.zeroCells123 123 (0, 0)) := by
    show ((w.heap.push _).push _)[w.heap.size + 1]? = _
    rw [Array.getElem?_push, if_pos (by simp)]
  have h0 : ((w.alloc (.cells Tryz.zeroCells123 123)).alloc (.cells Tryz.zeroCells123 123)).heap[w.heap.size]? = some (.cells Tryz.zeroCells123 123 (0, 0)) := by
    show ((w.heap.push _).push _)[w.heap.size]? = _
    rw [Array.getElem?_push, if_neg (by simp), Array.getElem?_push, if_pos rfl]
  have hold : ∀ k, k < w.heap.size → ((w.alloc (.cells Tryz.zeroCells123 123)).alloc (.cells Tryz.zeroCells123 123)).heap[k]? = w.heap[k]? := fun k hk => by
    rw [Below.heap_alloc _ _ _ (by simp; omega), Below.heap_alloc _ _ _ hk]
  have hb : Below w.heap.size w ((w.alloc (.cells Tryz.zeroCells123 123)).alloc (.cells Tryz.zeroCells123 123)) := ((Below.refl _ _).alloc (Nat.le_refl _) _).alloc (by simp) _
  generalize ((w.alloc (.cells Tryz.zeroCells123 123)).alloc (.cells Tryz.zeroCells123 123)) = W at *
  have hs : (W.setRow (w.heap.size + 1) cs).heap.size = w.heap.size + 2 := by rw [size_setRow]; exact hz
  refine ⟨?_, ?_, ⟨cs, ?_, hsz, fun i hi => by rw [hcs i hi, pathAt_zero]⟩, by omega, ?_⟩
  · rw [← hs]; exact World.iter_heap _ _ _
  · show ((W.setRow (w.heap.size + 1) cs).alloc _).heap[w.heap.size]? = _
    rw [Below.heap_alloc _ _ _ (by omega), setRow_other _ _ _ _ (by omega)]; exact h0
  · show ((W.setRow (w.heap.size + 1) cs).alloc _).heap[w.heap.size + 1]? = _
    rw [Below.heap_alloc _ _ _ (by omega)]; exact setRow_heap _ _ _ _ _ _ h1
  · exact (below_setRow hb (by omega) cs).alloc (by omega) _
set_option maxHeartbeats 4000000 in
set_option maxRecDepth 100000 in
theorem pathBytes_any (w : World) (hset : SetIs w) :
    Calls Tryz.prog 120 #[] w fun e w' => (∃ cs, e = .returned (.agg cs) ∧ ∀ i : Nat, i < 128 → cs[i]? = some (.bool (pathI (i : Int)))) ∧ Below w.heap.size w w' := by
  obtain ⟨cs, tt, fr, hg, hsz, hcs⟩ := hset
  have HI : Hid ((Tryz.prog.info? 123).map (·.size) = some cs.size) := by
    show _ = _
    rw [infoSet, hsz]
  have HA : Hid (cs.all (·.oneCell') = true) := all_bools hsz hcs
  have HZ : Hid ((Tryz.zeroCells123).size = cs.size) := by show _ = _; rw [zeroSet_size, hsz]
  have HP : Hid (PathW w 0 _) := path_start hsz hcs
  have HG : Hid ((w.alloc (.cells Tryz.zeroCells123 123)).heap[4]? = some (.cells cs tt fr)) := by
    show _ = _
    rw [Below.heap_alloc _ _ _ (Array.getElem?_eq_some_iff.1 hg).1]; exact hg
  have HG1 : Hid (((w.alloc (.cells Tryz.zeroCells123 123)).alloc (.cells Tryz.zeroCells123 123)).heap[w.heap.size + 1]? = some (.cells Tryz.zeroCells123 123 (0, 0))) := by
    show ((w.heap.push _).push _)[w.heap.size + 1]? = _
    rw [Array.getElem?_push, if_pos (by simp)]
  clear hg hsz hcs
  go_enter Tryz.func120, Tryz.ntmps120
  go_wp2_with (first
    | refine wpList_load_row rfl 123 (.global 4) rfl 4 rfl tt cs fr _ HG.out Tryz.underlying123 rfl HI.out ?_
    | refine wpList_store_row rfl 123 (.tmp 1) (.tmp 4) rfl (w.heap.size + 1) cs (by rfl) (by rfl) 123 _ HG1.out HI.out HZ.out HA.out ?_)
  clear HG HG1 HI HA HZ
  go_loopw [3] (fun _ wr => ∃ pos, PathW w pos wr) (fun _ wr => 10 - wr.iterPos (w.heap.size + 2))
  case atStart => exact ⟨0, HP.out⟩
  case round =>
    clear HP
    obtain ⟨pos, hP⟩ := hrel
    have HP : Hid (PathW w pos wr) := hP
    by_cases hlt : pos < 10
    · have hp' : pos < marksS.size := hlt
      have hnx : ∀ ty, (Instr.next (.pointer (some ⟨w.heap.size + 1 + 1, 0, none⟩)) true ty).run Tryz.prog wr = .ok (.tuple #[.bool true, .int .i64 pos, .int .i32 (markAt pos : Int)]) (wr.iterAt (w.heap.size + 2) marksS (pos + 1)) := fun ty => by
        have := Lib.run_next_ascii_at (P := Tryz.prog) wr (w.heap.size + 2) marksS pos ty hP.it hp' (by rw [markAt_eq pos hp']; exact markAt_lt pos)
        rw [markAt_eq pos hp'] at this
        exact this
      have HN : Hid (PathW w (pos + 1) ((wr.iterAt (w.heap.size + 2) marksS (pos + 1)).setCell ⟨w.heap.size + 1, markAt pos, none⟩ (.bool true))) := hP.next hlt
      have hc : (wr.iterAt (w.heap.size + 2) marksS (pos + 1)).cell? ⟨w.heap.size + 1, markAt pos, none⟩ = some (.bool (pathAt pos (markAt pos))) := by
        rw [← (hP.cell (markAt pos) (markAt_lt pos)).1]
        simp only [World.cell?]
        rw [Lib.iterAt_other _ _ _ _ _ (by omega)]
      have hf : (wr.iterAt (w.heap.size + 2) marksS (pos + 1)).frozen? ⟨w.heap.size + 1, markAt pos, none⟩ = false := by
        rw [← (hP.cell (markAt pos) (markAt_lt pos)).2]
        simp only [World.frozen?]
        rw [Lib.iterAt_other _ _ _ _ _ (by omega)]
      have hm := markAt_lt pos
      have HQ : Hid (wr.iterPos (w.heap.size + 2) = pos) := by
        show _ = _
        unfold World.iterPos
        rw [hP.it]
      have HQ2 : Hid (((wr.iterAt (w.heap.size + 2) marksS (pos + 1)).setCell ⟨w.heap.size + 1, markAt pos, none⟩ (.bool true)).iterPos (w.heap.size + 2) = pos + 1) := by
        show _ = _
        unfold World.iterPos
        rw [HN.out.it]
      clear hP hp'
      generalize wr.iterAt (w.heap.size + 2) marksS (pos + 1) = W2 at *
      generalize markAt pos = c at *
      generalize pathAt pos c = bb at *
      go_wp2_with fail
      go_roundw
      case rel => exact ⟨pos + 1, HN.out⟩
      case measure => rw [HQ.out, HQ2.out]; omega
    · have hnx : ∀ ty, (Instr.next (.pointer (some ⟨w.heap.size + 1 + 1, 0, none⟩)) true ty).run Tryz.prog wr = .ok (.tuple #[.bool false]) wr := fun ty => Lib.run_next_end_at (P := Tryz.prog) wr (w.heap.size + 2) marksS pos ty hP.it (fun h => hlt h)
      have e10 : pos = 10 := by have := hP.le; omega
      subst e10
      obtain ⟨cs', h1, h2, h3⟩ := hP.b1
      have HI : Hid ((Tryz.prog.info? 123).map (·.size) = some cs'.size) := by
        show _ = _
        rw [infoSet, h2]
      have HA : Hid (cs'.all (·.oneCell') = true) := all_bools h2 h3
      have HZ : Hid ((Tryz.zeroCells123).size = cs'.size) := by show _ = _; rw [zeroSet_size, h2]
      have H1 : Hid (wr.heap[w.heap.size + 1]? = some (.cells cs' 123 (0, 0))) := h1
      have H0 : Hid (wr.heap[w.heap.size]? = some (.cells Tryz.zeroCells123 123 (0, 0))) := hP.b0
      have H3 : Hid (∀ i : Nat, i < 128 → cs'[i]? = some (.bool (pathI (i : Int)))) := fun i hi => by rw [h3 i hi, pathAt_end]
      have HB : Hid (Below w.heap.size w (wr.setRow w.heap.size cs')) := below_setRow hP.bel (Nat.le_refl _) cs'
      clear h1 h2 h3 hP HP
      go_wp2_with (first
        | refine wpList_load_row rfl 123 (.tmp 1) rfl (w.heap.size + 1) (by rfl) 123 cs' (0, 0) _ H1.out Tryz.underlying123 rfl HI.out ?_
        | refine wpList_store_row rfl 123 (.tmp 0) (.tmp 11) rfl w.heap.size cs' (by rfl) (by rfl) 123 _ H0.out HI.out HZ.out HA.out ?_)
      exact bodyPost_ret (v := .agg cs') (results_cell_row Tryz.results120 _ _ w.heap.size 123 cs' (0, 0) _ (by rfl) (setRow_heap _ _ _ _ _ _ H0.out) Tryz.underlying123 rfl HI.out) rfl ⟨⟨cs', rfl, H3.out⟩, HB.out⟩
set_option maxHeartbeats 2000000 in
theorem isPath_any (s : ByteArray) (w : World) (hset : SetIs w) (hs : s.size ≤ 1048576) :
    Calls Tryz.prog 80 #[.string s] w fun e w' => e = .returned (.bool (pathS s)) ∧ Below w.heap.size w w' := by
  have CP := Any.strings_HasPrefix Tryz.lays99 s ⟨#[47]⟩ w
  have e : Lib.hasPrefix s.data.toList [47] = decide (s.data.toList.head? = some 47) := by
    unfold Lib.hasPrefix
    cases s.data.toList with
    | nil => rfl
    | cons x l =>
      rw [Bool.eq_iff_iff]
      simp [List.isPrefixOf]
      exact ⟨fun h => h.symm, fun h => h.symm⟩
  have CP1 : Calls Tryz.prog 119 #[.string s, .string ⟨#[47]⟩] w fun e w' => e = .returned (.bool (decide (s.data.toList.head? = some 47))) ∧ w' = w := by rw [← e]; exact CP
  clear CP e
  by_cases c1 : s.data.toList.head? = some 47
  · rw [decide_eq_true c1] at CP1
    by_cases c2 : 100 < s.size
    · have HE : Hid (pathS s = false) := pathS_long s c2
      have g : decide ((s.size : Int) ≤ 100) = false := by simp; omega
      clear c1 hset
      go_enter Tryz.func80, Tryz.ntmps80
      go_wp2_with (go_at_call 119; refine CP1.mono ?_; rintro e w' ⟨rfl, rfl⟩)
      go_ret
      exact ⟨ret_bool HE.out.symm, Below.refl _ _⟩
    · have HE : Hid (pathS s = allP pathI s.data.toList) := pathS_mid s c1 (by omega)
      have g : decide ((s.size : Int) ≤ 100) = true := by simp; omega
      have C1 := pathBytes_any w hset
      have C2 : Hid (∀ (W : World) cs, (∀ i : Nat, i < 128 → cs[i]? = some (.bool (pathI (i : Int)))) → Calls Tryz.prog 93 #[.string s, .agg cs] W fun e w' => e = .returned (.bool (allP pathI s.data.toList)) ∧ Below W.heap.size W w') := fun W cs h => hasOnly_gen pathI pathI_big s cs W (by omega) h
      clear c1 hset c2
      go_enter Tryz.func80, Tryz.ntmps80
      go_wp2_with (go_at_call 119; refine CP1.mono ?_; rintro e w' ⟨rfl, hw⟩; obtain rfl := hw.symm)
      refine C1.mono ?_
      rintro e w1 ⟨⟨cs, rfl, hcs⟩, hb1⟩
      have C3 := C2.out w1 cs hcs
      have HB : Hid (Below w.heap.size w w1) := hb1
      clear C1 C2 hcs hb1
      go_wp2_with fail
      refine C3.mono ?_
      rintro e w2 ⟨rfl, hb2⟩
      have HB2 : Hid (Below w.heap.size w w2) := HB.out.trans (hb2.mono HB.out.size)
      clear hb2 HB C3
      go_wp2_with fail
      go_ret
      exact ⟨ret_bool HE.out.symm, HB2.out⟩
  · rw [decide_eq_false c1] at CP1
    have HE : Hid (pathS s = false) := pathS_first s c1
    clear c1 hset
    go_enter Tryz.func80, Tryz.ntmps80
    go_wp2_with (go_at_call 119; refine CP1.mono ?_; rintro e w' ⟨rfl, rfl⟩)
    go_ret
    exact ⟨ret_bool HE.out.symm, Below.refl _ _⟩
end Go.Proofs.YtonnggelpjjmmaaGreatDoor
/-
  errors.Is at a sentinel: the same one, none, another one.
-/
namespace Go.Proofs.YtonnggelpjjmmaaGreatDoor
open Go.RowKit Go.Extern.Stop Go.Stop Go.Extern
theorem erTypeOf (v : Value) (w : World) : (Extern.ReflectliteType.typeOf #[.iface 230 v]).run Tryz.prog w = .ok (.iface 172 (.agg #[.pointer (some ⟨11, 230, none⟩)])) w := by kernel_rfl
noncomputable def erM (t : TypeId) : Sem Value := do Go.Extern.Rtype.noPackHeld "Comparable" t; pure (.bool (← typeInfo t).comparable)
theorem erComparable (w : World) : (Extern.ReflectliteType.method erM #[.agg #[.pointer (some ⟨11, 230, none⟩)]]).run Tryz.prog w = .ok (.bool true) w := by kernel_rfl
theorem erMethod (v : Value) (w : World) : (Go.method 364 172 v "Comparable").run Tryz.prog w = .ok (220, v) w := by kernel_rfl
theorem erComp : (Tryz.prog.info? 230).map (·.comparable) = some true := by kernel_rfl
theorem erSize : (Tryz.prog.info? 253).map (·.size) = some 1 := by kernel_rfl
theorem erNoIs (v : Value) (xT : TypeId) (w : World) : (Instr.typeAssert (.iface 230 v) xT 174 true).run Tryz.prog w = .ok (.tuple #[.nilIface, .bool false]) w := run_typeAssert_lacksB Tryz.underlying174 (by kernel_rfl) (by kernel_rfl) v xT w
theorem erNoUnwrap (v : Value) (xT : TypeId) (w : World) : (Instr.typeAssert (.iface 230 v) xT 177 true).run Tryz.prog w = .ok (.tuple #[.nilIface, .bool false]) w := run_typeAssert_lacksB Tryz.underlying177 (by kernel_rfl) (by kernel_rfl) v xT w
theorem erNoUnwraps (v : Value) (xT : TypeId) (w : World) : (Instr.typeAssert (.iface 230 v) xT 179 true).run Tryz.prog w = .ok (.tuple #[.nilIface, .bool false]) w := run_typeAssert_lacksB Tryz.underlying179 (by kernel_rfl) (by kernel_rfl) v xT w
set_option maxRecDepth 100000 in
theorem is_same (a : Addr) (w : World) :
    Calls Tryz.prog 78 #[.iface 230 (.pointer (some a)), .iface 230 (.pointer (some a))] w fun e w' => e = .returned (.bool true) ∧ w' = w := by
  obtain ⟨i, hi, hcmp⟩ := Option.map_eq_some_iff.1 erComp
  obtain ⟨j, hj, hjs⟩ := Option.map_eq_some_iff.1 erSize
  have h8 := @run_callFunc_extern Tryz.prog 116 _ Extern.ReflectliteType.typeOf Tryz.func116 (by kernel_rfl) (by kernel_rfl) (by kernel_rfl) (by kernel_rfl)
  have h32 := @run_callFunc_extern Tryz.prog 220 _ (Extern.ReflectliteType.method erM) Tryz.func220 (by kernel_rfl) (by kernel_rfl) (by kernel_rfl) (by kernel_rfl)
  have tT := erTypeOf
  have cT := erComparable
  have mR := erMethod
  have heq := run_eql_iface_ptr_same (P := Tryz.prog) w a Tryz.underlying67 Tryz.underlying230 hi hcmp hj
  go_enter Tryz.func78, Tryz.ntmps78
  go_wp2
  refine wp_loop_rounds 1 ?_
  rw [rounds_succ]
  go_wp2
  go_ret
  exact ⟨rfl, rfl⟩
set_option maxRecDepth 100000 in
theorem is_other (a b : Addr) (ca cb : Array Value) (ta tb : TypeId) (w : World) (hne : a ≠ b) (ha : w.heap[a.block]? = some (.cells ca ta (0, 0))) (hb : w.heap[b.block]? = some (.cells cb tb (0, 0))) :
    Calls Tryz.prog 78 #[.iface 230 (.pointer (some a)), .iface 230 (.pointer (some b))] w fun e w' => e = .returned (.bool false) ∧ w' = w := by
  obtain ⟨i, hi, hcmp⟩ := Option.map_eq_some_iff.1 erComp
  obtain ⟨j, hj, hjs⟩ := Option.map_eq_some_iff.1 erSize
  have h8 := @run_callFunc_extern Tryz.prog 116 _ Extern.ReflectliteType.typeOf Tryz.func116 (by kernel_rfl) (by kernel_rfl) (by kernel_rfl) (by kernel_rfl)
  have h32 := @run_callFunc_extern Tryz.prog 220 _ (Extern.ReflectliteType.method erM) Tryz.func220 (by kernel_rfl) (by kernel_rfl) (by kernel_rfl) (by kernel_rfl)
  have tT := erTypeOf
  have cT := erComparable
  have mR := erMethod
  have nE := erNoIs
  have uE := erNoUnwrap
  have vE := erNoUnwraps
  have heq := run_eql_iface_ptr_other (P := Tryz.prog) w Tryz.underlying67 Tryz.underlying230 hi hcmp hj (by rw [hjs]; decide) hne ha hb
  go_enter Tryz.func78, Tryz.ntmps78
  go_wp2
  refine wp_loop_rounds 1 ?_
  rw [rounds_succ]
  go_wp2
  go_ret
  exact ⟨rfl, rfl⟩
end Go.Proofs.YtonnggelpjjmmaaGreatDoor
/-
  The four errors of chapter 5 in memory: what the row's list gives of them; codeOf.
-/
namespace Go.Proofs.YtonnggelpjjmmaaGreatDoor
open Go.ChangeShapes Go.WideShapes Go.ChangeAt Go.RowKit
theorem laid_sentinels4 {P : Program} {n0 n1 n2 n3 nm : String} {x0 x1 x2 x3 : List UInt8} {r : List (String × DataW Unit)} {W : World} {g0 g1 g2 g3 : Nat} {ti tp te ts : TypeId} {ms : Array (String × TypeId)} {f : Field}
    (h : laidMet P ((n0, .iface nm (.ptr (.agg [.lit (.string x0)]))) :: (n1, .iface nm (.ptr (.agg [.lit (.string x1)]))) :: (n2, .iface nm (.ptr (.agg [.lit (.string x2)]))) :: (n3, .iface nm (.ptr (.agg [.lit (.string x3)]))) :: r) W)
    (hg0 : P.globalNamed n0 = some g0) (ht0 : (P.globals[g0]?).map (·.type) = some ti) (hg1 : P.globalNamed n1 = some g1) (ht1 : (P.globals[g1]?).map (·.type) = some ti) (hg2 : P.globalNamed n2 = some g2) (ht2 : (P.globals[g2]?).map (·.type) = some ti) (hg3 : P.globalNamed n3 = some g3) (ht3 : (P.globals[g3]?).map (·.type) = some ti)
    (hi : P.underlying ti = some (.interface ms)) (hrow : ∀ u, P.typeName? 3 u = some nm → u = tp) (hp : P.underlying tp = some (.pointer te)) (he : P.underlying te = some (.struct #[f])) (hft : f.type = ts) (hfo : f.offset = 0) (hs : P.underlying ts = some .string) (hc : P.cellsOf te = 1) (hcs : P.cellsOf ts = 1) :
    ∃ a0 a1 a2 a3 : Addr, (W.var? P n0 = some #[.iface tp (.pointer (some a0))] ∧ W.var? P n1 = some #[.iface tp (.pointer (some a1))] ∧ W.var? P n2 = some #[.iface tp (.pointer (some a2))] ∧ W.var? P n3 = some #[.iface tp (.pointer (some a3))]) ∧
      (a0 ≠ a1 ∧ a0 ≠ a2 ∧ a0 ≠ a3 ∧ a1 ≠ a2 ∧ a1 ≠ a3 ∧ a2 ≠ a3) ∧
      (∃ c t, W.heap[a0.block]? = some (.cells c t (0, 0))) ∧ (∃ c t, W.heap[a1.block]? = some (.cells c t (0, 0))) ∧ (∃ c t, W.heap[a2.block]? = some (.cells c t (0, 0))) ∧ (∃ c t, W.heap[a3.block]? = some (.cells c t (0, 0))) := by
  obtain ⟨ps, ⟨g0', t0', cs0, f0, p0, q0, hg0', ht0', hv0, hd0, ⟨g1', t1', cs1, f1, p1, q1, hg1', ht1', hv1, hd1, ⟨g2', t2', cs2, f2, p2, q2, hg2', ht2', hv2, hd2, ⟨g3', t3', cs3, f3, p3, q3, hg3', ht3', hv3, hd3, _, e3⟩, e2⟩, e1⟩, e0⟩, hnd, hrows⟩ := h
  obtain rfl := Option.some.inj (hg0.symm.trans hg0')
  obtain rfl := Option.some.inj (hg1.symm.trans hg1')
  obtain rfl := Option.some.inj (hg2.symm.trans hg2')
  obtain rfl := Option.some.inj (hg3.symm.trans hg3')
  obtain rfl := Option.some.inj (ht0.symm.trans ht0')
  obtain rfl := Option.some.inj (ht1.symm.trans ht1')
  obtain rfl := Option.some.inj (ht2.symm.trans ht2')
  obtain rfl := Option.some.inj (ht3.symm.trans ht3')
  subst e3
  subst e2
  subst e1
  subst e0
  obtain ⟨l0⟩ := cs0
  obtain ⟨l1⟩ := cs1
  obtain ⟨l2⟩ := cs2
  obtain ⟨l3⟩ := cs3
  have ok0 : ∀ u v, l0 = [.iface u v] → Value.okWide P W .any 0 u v := fun u v e => by
    subst e
    exact (hrows g0 0 (by simp [MemPlace.row])).2 u v (by simpa using World.var?_cell hg0' hv0 0)
  have ok1 : ∀ u v, l1 = [.iface u v] → Value.okWide P W .any 0 u v := fun u v e => by
    subst e
    exact (hrows g1 0 (by simp [MemPlace.row])).2 u v (by simpa using World.var?_cell hg1' hv1 0)
  have ok2 : ∀ u v, l2 = [.iface u v] → Value.okWide P W .any 0 u v := fun u v e => by
    subst e
    exact (hrows g2 0 (by simp [MemPlace.row])).2 u v (by simpa using World.var?_cell hg2' hv2 0)
  have ok3 : ∀ u v, l3 = [.iface u v] → Value.okWide P W .any 0 u v := fun u v e => by
    subst e
    exact (hrows g3 0 (by simp [MemPlace.row])).2 u v (by simpa using World.var?_cell hg3' hv3 0)
  obtain ⟨a0, s0, rfl, hc0, hs0, hz0, rfl⟩ := errorString_of_trod hi hrow hp he hft hfo hs hc hcs hd0 ok0
  obtain ⟨a1, s1, rfl, hc1, hs1, hz1, rfl⟩ := errorString_of_trod hi hrow hp he hft hfo hs hc hcs hd1 ok1
  obtain ⟨a2, s2, rfl, hc2, hs2, hz2, rfl⟩ := errorString_of_trod hi hrow hp he hft hfo hs hc hcs hd2 ok2
  obtain ⟨a3, s3, rfl, hc3, hs3, hz3, rfl⟩ := errorString_of_trod hi hrow hp he hft hfo hs hc hcs hd3 ok3
  have b0 := (hrows a0.block a0.off (by simp [MemPlace.row])).1
  have b1 := (hrows a1.block a1.off (by simp [MemPlace.row])).1
  have b2 := (hrows a2.block a2.off (by simp [MemPlace.row])).1
  have b3 := (hrows a3.block a3.off (by simp [MemPlace.row])).1
  refine ⟨a0, a1, a2, a3, ⟨hv0, hv1, hv2, hv3⟩, ⟨?_, ?_, ?_, ?_, ?_, ?_⟩, b0, b1, b2, b3⟩
  all_goals (rintro rfl; simp [MemPlace.row] at hnd)
structure Errs where
  u : Addr
  m : Addr
  b : Addr
  d : Addr
/-- The four variables hold pointers to four errors of errors.New's make. -/
structure ErrsIs (w : World) (E : Errs) : Prop where
  gU : w.cell? ⟨3, 0, none⟩ = some (.iface 230 (.pointer (some E.u)))
  gM : w.cell? ⟨0, 0, none⟩ = some (.iface 230 (.pointer (some E.m)))
  gB : w.cell? ⟨1, 0, none⟩ = some (.iface 230 (.pointer (some E.b)))
  gD : w.cell? ⟨2, 0, none⟩ = some (.iface 230 (.pointer (some E.d)))
  ne : E.u ≠ E.m ∧ E.u ≠ E.b ∧ E.u ≠ E.d ∧ E.m ≠ E.b ∧ E.m ≠ E.d ∧ E.b ≠ E.d
  hU : ∃ c t, w.heap[E.u.block]? = some (.cells c t (0, 0))
  hM : ∃ c t, w.heap[E.m.block]? = some (.cells c t (0, 0))
  hB : ∃ c t, w.heap[E.b.block]? = some (.cells c t (0, 0))
  hD : ∃ c t, w.heap[E.d.block]? = some (.cells c t (0, 0))
theorem ErrsIs.below {w w' : World} {E : Errs} (h : ErrsIs w E) (hb : Below w.heap.size w w') : ErrsIs w' E := by
  have hc : ∀ {g : Nat} {v : Value}, w.cell? ⟨g, 0, none⟩ = some v → w'.cell? ⟨g, 0, none⟩ = some v := fun {g v} e => by rw [hb.cell (block_lt_of_cell e)]; exact e
  have hh : ∀ {a : Addr}, (∃ c t, w.heap[a.block]? = some (.cells c t (0, 0))) → ∃ c t, w'.heap[a.block]? = some (.cells c t (0, 0)) := fun {a} ⟨c, t, e⟩ => ⟨c, t, by rw [hb.block a.block (Array.getElem?_eq_some_iff.1 e).1]; exact e⟩
  exact ⟨hc h.gU, hc h.gM, hc h.gB, hc h.gD, h.ne, hh h.hU, hh h.hM, hh h.hB, hh h.hD⟩
theorem erRow (u : TypeId) (h : Tryz.prog.typeName? 3 u = some "*errors.errorString") : u = 230 :=
  typeName_ptr_named (nm := "errors.errorString") (by rw [show "*" ++ "errors.errorString" = "*errors.errorString" from by decide]; kernel_rfl) (by kernel_rfl) (by decide) u (by rw [show "*" ++ "errors.errorString" = "*errors.errorString" from by decide]; exact h)
theorem erNamedU : Tryz.prog.globalNamed "loop.example/g00665/impl.errUnread" = some 3 := by kernel_rfl
theorem erTypeU : (Tryz.prog.globals[3]?).map (·.type) = some 67 := by kernel_rfl
theorem erNamedM : Tryz.prog.globalNamed "loop.example/g00665/impl.errTooMany" = some 0 := by kernel_rfl
theorem erTypeM : (Tryz.prog.globals[0]?).map (·.type) = some 67 := by kernel_rfl
theorem erNamedB : Tryz.prog.globalNamed "loop.example/g00665/impl.errBeyond" = some 1 := by kernel_rfl
theorem erTypeB : (Tryz.prog.globals[1]?).map (·.type) = some 67 := by kernel_rfl
theorem erNamedD : Tryz.prog.globalNamed "loop.example/g00665/impl.errDouble" = some 2 := by kernel_rfl
theorem erTypeD : (Tryz.prog.globals[2]?).map (·.type) = some 67 := by kernel_rfl
theorem errsIs_of {w : World} {rest : List (String × DataW Unit)} (h : laidMet Tryz.prog (("loop.example/g00665/impl.errUnread", Rows.laid_loop_example_g00665_impl_errUnread) :: ("loop.example/g00665/impl.errTooMany", Rows.laid_loop_example_g00665_impl_errTooMany) :: ("loop.example/g00665/impl.errBeyond", Rows.laid_loop_example_g00665_impl_errBeyond) :: ("loop.example/g00665/impl.errDouble", Rows.laid_loop_example_g00665_impl_errDouble) :: rest) w) : ∃ E, ErrsIs w E := by
  obtain ⟨a0, a1, a2, a3, ⟨v0, v1, v2, v3⟩, hne, h0, h1, h2, h3⟩ := laid_sentinels4 h erNamedU erTypeU erNamedM erTypeM erNamedB erTypeB erNamedD erTypeD Tryz.underlying67 erRow Tryz.underlying230 Tryz.underlying253 rfl rfl Tryz.underlying9 (by kernel_rfl) (by kernel_rfl)
  exact ⟨⟨a0, a1, a2, a3⟩, by simpa using World.var?_cell erNamedU v0 0, by simpa using World.var?_cell erNamedM v1 0, by simpa using World.var?_cell erNamedB v2 0, by simpa using World.var?_cell erNamedD v3 0, hne, h0, h1, h2, h3⟩
/-- The error of a code. -/
def errV (E : Errs) (c : Int) : Value := if c = 0 then .nilIface else if c = 2 then .iface 230 (.pointer (some E.m)) else if c = 3 then .iface 230 (.pointer (some E.b)) else if c = 6 then .iface 230 (.pointer (some E.d)) else .iface 230 (.pointer (some E.u))
theorem errV0 (E : Errs) : errV E 0 = .nilIface := rfl
theorem errV2 (E : Errs) : errV E 2 = .iface 230 (.pointer (some E.m)) := rfl
theorem errV3 (E : Errs) : errV E 3 = .iface 230 (.pointer (some E.b)) := rfl
theorem errV5 (E : Errs) : errV E 5 = .iface 230 (.pointer (some E.u)) := rfl
theorem errV6 (E : Errs) : errV E 6 = .iface 230 (.pointer (some E.d)) := rfl
end Go.Proofs.YtonnggelpjjmmaaGreatDoor
/-
  codeOf and headError.
-/
namespace Go.Proofs.YtonnggelpjjmmaaGreatDoor
open Go.ChangeShapes Go.WideShapes Go.ChangeAt Go.RowKit
set_option maxHeartbeats 1000000 in
theorem codeOf_any (E : Errs) (c : Int) (w : World) (hE : ErrsIs w E) (hc : c = 0 ∨ c = 2 ∨ c = 3 ∨ c = 5 ∨ c = 6) :
    Calls Tryz.prog 38 #[errV E c] w fun e w' => e = .returned (.int .i64 c) ∧ w' = w := by
  obtain ⟨gU, gM, gB, gD, ⟨n1, n2, n3, n4, n5, n6⟩, ⟨cu, tu, hU⟩, ⟨cm, tm, hM⟩, ⟨cb, tb, hB⟩, ⟨cd, td, hD⟩⟩ := hE
  rcases hc with rfl | rfl | rfl | rfl | rfl
  · rw [errV0]
    go_enter Tryz.func38, Tryz.ntmps38
    go_wp2_with fail
    go_ret
    exact ⟨rfl, rfl⟩
  · rw [errV2]
    have I1 := is_same E.m w
    go_enter Tryz.func38, Tryz.ntmps38
    go_wp2_with fail
    refine I1.mono ?_
    rintro e w' ⟨rfl, rfl⟩
    go_wp2_with fail
    go_ret
    exact ⟨rfl, rfl⟩
  · rw [errV3]
    have I1 := is_other E.b E.m cb cm tb tm w (Ne.symm n4) hB hM
    have I2 := is_same E.b w
    go_enter Tryz.func38, Tryz.ntmps38
    go_wp2_with fail
    refine I1.mono ?_
    rintro e w' ⟨rfl, rfl⟩
    go_wp2_with fail
    refine I2.mono ?_
    rintro e w' ⟨rfl, rfl⟩
    go_wp2_with fail
    go_ret
    exact ⟨rfl, rfl⟩
  · rw [errV5]
    have I1 := is_other E.u E.m cu cm tu tm w n1 hU hM
    have I2 := is_other E.u E.b cu cb tu tb w n2 hU hB
    have I3 := is_other E.u E.d cu cd tu td w n3 hU hD
    go_enter Tryz.func38, Tryz.ntmps38
    go_wp2_with fail
    refine I1.mono ?_
    rintro e w' ⟨rfl, rfl⟩
    go_wp2_with fail
    refine I2.mono ?_
    rintro e w' ⟨rfl, rfl⟩
    go_wp2_with fail
    refine I3.mono ?_
    rintro e w' ⟨rfl, rfl⟩
    go_wp2_with fail
    go_ret
    exact ⟨rfl, rfl⟩
  · rw [errV6]
    have I1 := is_other E.d E.m cd cm td tm w (Ne.symm n5) hD hM
    have I2 := is_other E.d E.b cd cb td tb w (Ne.symm n6) hD hB
    have I3 := is_same E.d w
    go_enter Tryz.func38, Tryz.ntmps38
    go_wp2_with fail
    refine I1.mono ?_
    rintro e w' ⟨rfl, rfl⟩
    go_wp2_with fail
    refine I2.mono ?_
    rintro e w' ⟨rfl, rfl⟩
    go_wp2_with fail
    refine I3.mono ?_
    rintro e w' ⟨rfl, rfl⟩
    go_wp2_with fail
    go_ret
    exact ⟨rfl, rfl⟩
set_option maxHeartbeats 1000000 in
theorem headError_any (E : Errs) (c : Int) (w : World) (hE : ErrsIs w E) (hc : c = 0 ∨ c = 2 ∨ c = 5) :
    Calls Tryz.prog 81 #[.int .i64 c] w fun e w' => e = .returned (errV E c) ∧ w' = w := by
  have gM := hE.gM
  have gU := hE.gU
  rcases hc with rfl | rfl | rfl
  · rw [errV0]
    go_enter Tryz.func81, Tryz.ntmps81
    go_wp2
    go_ret
    exact ⟨rfl, rfl⟩
  · rw [errV2]
    go_enter Tryz.func81, Tryz.ntmps81
    go_wp2
    go_ret
    exact ⟨rfl, rfl⟩
  · rw [errV5]
    go_enter Tryz.func81, Tryz.ntmps81
    go_wp2
    go_ret
    exact ⟨rfl, rfl⟩
end Go.Proofs.YtonnggelpjjmmaaGreatDoor
/-
  What JoinHeader answers.
-/
namespace Go.Proofs.YtonnggelpjjmmaaGreatDoor
open Go.ChangeShapes Go.WideShapes Go.ChangeAt Go.RowKit Go.Sort
theorem HeadsAt.drop {w : World} {b off : Nat} {l : List Hdr} (h : HeadsAt w b off l) (i : Nat) : HeadsAt w b (off + i * 2) (l.drop i) := by
  intro j r hr
  rw [List.getElem?_drop] at hr
  obtain ⟨a, c⟩ := h (i + j) r hr
  rw [show off + (i + j) * 2 = off + i * 2 + j * 2 from by omega] at a c
  exact ⟨a, c⟩
theorem hjoinL_len (vs : List ByteArray) (h : ∀ v ∈ vs, v.size ≤ 200) : (hjoinL vs).length ≤ vs.length * 202 := by
  unfold hjoinL
  cases vs with
  | nil => simp [Lib.join, List.intercalate]
  | cons x r =>
    rw [List.map_cons, Lib.join_length]
    have hl : ∀ (l : List ByteArray), (∀ v ∈ l, v.size ≤ 200) → Lib.lens (l.map (·.data.toList)) ≤ l.length * 200 := by
      intro l
      induction l with
      | nil => intro _; simp [Lib.lens]
      | cons y l ih =>
        intro hy
        have h1 := ih fun v hv => hy v (by simp [hv])
        have h2 := hy y (by simp)
        have h3 : y.data.toList.length = y.size := by simp
        simp only [List.map_cons, Lib.lens, List.length_cons, List.sum_cons] at h1 ⊢
        omega
    have := hl (x :: r) h
    rw [List.map_cons] at this
    simp only [List.length_cons, List.length_map, List.length_nil] at this ⊢
    omega
theorem valsOf_mem {x : ByteArray} {l : List Hdr} (hz : ∀ (i : Nat) r, l[i]? = some r → r.name.size ≤ 64 ∧ r.value.size ≤ 200) : ∀ v ∈ valsOf x l, v.size ≤ 200 := by
  intro v hv
  obtain ⟨r, hr, rfl⟩ := List.mem_map.1 hv
  obtain ⟨i, hi⟩ := List.getElem?_of_mem (List.mem_filter.1 hr).1
  exact (hz i r hi).2
theorem valsOf_len (x : ByteArray) (l : List Hdr) : (valsOf x l).length ≤ l.length := by
  unfold valsOf
  rw [List.length_map]
  exact List.length_filter_le _ _
set_option maxRecDepth 100000 in
set_option maxHeartbeats 8000000 in
theorem implJoin_found (w : World) (b off cap : Nat) (l : List Hdr) (name : ByteArray) (i : Nat) (h0 : askC l name = 0) (hf : firstAt (lowS name) l = some i) (hcap : l.length ≤ cap) (hset : SetIs w) (hat : HeadsAt w b off l) :
    Calls Tryz.prog 61 #[.slice (some ⟨b, off, none⟩) l.length cap, .string name] w fun e w' => e = .returned (.agg #[.int .i64 0, .string ⟨(hjoinL (valsOf (lowS name) l)).toArray⟩]) ∧ Below w.heap.size w w' := by
  obtain ⟨h20, hz, hnm⟩ := asked h0
  have hi : HdsIn w (some ⟨b, off, none⟩) l := .inr ⟨b, off, rfl, hat⟩
  have HA : Hid (∀ W, Below w.heap.size w W → Calls Tryz.prog 94 #[.slice (some ⟨b, off, none⟩) l.length cap, .string name] W fun e w' => e = .returned (.int .i64 0) ∧ Below W.heap.size W w') := fun W hb => by
    have := namedFault_any W (some ⟨b, off, none⟩) cap l name (by omega) (hset.below hb) (hi.keep hb)
    rw [h0] at this
    exact this
  have HP : Hid (∀ W, Below w.heap.size w W → Calls Tryz.prog 95 #[.slice (some ⟨b, off, none⟩) l.length cap] W fun e w' => e = .returned (.map (some W.heap.size)) ∧ NamesMap w' W.heap.size 20 (fun x => firstAt x l) ∧ Below W.heap.size W w') := fun W hb => firstPlaces_any W _ cap l h20 (fun i r hr => (hz i r hr).1) (hi.keep hb)
  have HS : Hid (∀ W, Calls Tryz.prog 60 #[.string name] W fun e w' => e = .returned (.string (lowS name)) ∧ Below W.heap.size W w') := fun W => smallName_any name W (by omega)
  have hil := firstAt_lt hf
  have HV : Hid (valsOf (lowS name) (l.drop i) = valsOf (lowS name) l) := (valsOf_drop hf).1
  have HD : Hid (HeadsAt w b (off + i * 2) (l.drop i)) := hat.drop i
  have HZ : Hid (∀ (j : Nat) r, (l.drop i)[j]? = some r → r.name.size ≤ 64 ∧ r.value.size ≤ 200) := fun j r hr => by
    rw [List.getElem?_drop] at hr
    exact hz _ r hr
  have HF : Hid (firstAt (lowS name) l = some i) := hf
  have sz := lowS_size name
  have hJL : (hjoinL (valsOf (lowS name) l)).length ≤ 4040 := by
    have h1 := hjoinL_len _ (valsOf_mem (x := lowS name) hz)
    have h2 := valsOf_len (lowS name) l
    have h3 : (valsOf (lowS name) l).length * 202 ≤ 20 * 202 := Nat.mul_le_mul_right _ (by omega)
    omega
  have hVL : (valsOf (lowS name) l).length ≤ 20 := Nat.le_trans (valsOf_len _ _) h20
  generalize hM : l.drop i = M at *
  have hMl : M.length = l.length - i := by rw [← hM, List.length_drop]
  clear hi hz h0 hset hat hf hM
  generalize lowS name = q at *
  have hni : i < l.length := hil
  generalize hn : l.length = n at *
  have HN : Hid (M.length = n - i) := hMl
  clear hMl hil hn
  go_enter Tryz.func61, Tryz.ntmps61
  go_wp2_with fail
  refine (HA.out _ ((Below.refl _ _).alloc (Nat.le_refl _) _)).mono ?_
  rintro e w1 ⟨rfl, hb1⟩
  rw [World.size_alloc] at hb1
  have HB1 : Hid (Below (w.heap.size + 1) (w.alloc (.cells #[.int .i64 0, .string ⟨#[]⟩] 50)) w1) := hb1
  have hz1 : w.heap.size + 1 ≤ w1.heap.size := by have := hb1.size; rwa [World.size_alloc] at this
  clear hb1 HA
  go_wp2_with fail
  refine (HS.out _).mono ?_
  rintro e w2 ⟨rfl, hb2⟩
  have HB2 : Hid (Below (w.heap.size + 1) (w.alloc (.cells #[.int .i64 0, .string ⟨#[]⟩] 50)) w2) := HB1.out.trans (hb2.mono hz1)
  have hz2 : w.heap.size + 1 ≤ w2.heap.size := Nat.le_trans hz1 hb2.size
  clear hb2 HB1 HS hz1
  go_wp2_with fail
  refine (HP.out _ (text_room HB2.out).2.2.2.2.2).mono ?_
  rintro e w3 ⟨rfl, hm3, hb3⟩
  have HB3 : Hid (Below (w.heap.size + 1) (w.alloc (.cells #[.int .i64 0, .string ⟨#[]⟩] 50)) w3) := HB2.out.trans (hb3.mono hz2)
  have hz3 : w.heap.size + 1 ≤ w3.heap.size := Nat.le_trans hz2 hb3.size
  have HM3 : Hid (NamesMap w3 w2.heap.size 20 (fun x => firstAt x l)) := hm3
  clear hb3 HB2 hm3 HP hz2
  generalize w2.heap.size = B at *
  try clear w2
  have gi0 : (0 : Int) ≤ (i : Int) := by omega
  have gi1 : (i : Int) ≤ (n : Int) := by omega
  have gi2 : (n : Int) ≤ (cap : Int) := by omega
  go_wp2_with (at_lookup; refine wpList_look_some _ rfl _ _ rfl B 20 _ rfl HM3.out q rfl (by omega) i HF.out ?_)
  clear HM3
  have hm20 : n - i ≤ 20 := by omega
  generalize n - i = m at *
  go_loopw [9, 35] (fun v j wr => ∃ (k : Nat), k ≤ m ∧ j = .int .i64 k ∧ OwnS wr (w.heap.size + 1) v (valsOf q (M.take k)) ∧ Below (w.heap.size + 1) (w.alloc (.cells #[.int .i64 0, .string ⟨#[]⟩] 50)) wr) (fun _ j _ => m - (intOf j).toNat)
  case atStart => exact ⟨0, Nat.zero_le _, rfl, OwnS.nil _ _, HB3.out⟩
  case round =>
    obtain ⟨k, hk, rfl, ho, hb⟩ := hrel
    have HO : Hid (OwnS wr (w.heap.size + 1) u9 (valsOf q (M.take k))) := ho
    have hz : w.heap.size + 1 ≤ wr.heap.size := by have := hb.size; rwa [World.size_alloc] at this
    have hwr : Below w.heap.size w wr := ((Below.refl _ _).alloc (Nat.le_refl _) _).trans (hb.mono (Nat.le_succ _))
    clear ho HB3
    by_cases hlt : k < m
    · obtain ⟨r, hr⟩ : ∃ r, M[k]? = some r := ⟨M[k]'(by have := HN.out; omega), List.getElem?_eq_getElem _⟩
      obtain ⟨p1, p3⟩ := (HD.out.keep hwr) k r hr
      obtain ⟨z1, z2⟩ := HZ.out k r hr
      have HK : Hid (M.take (k + 1) = M.take k ++ [r]) := take_hdr hr
      have hlk : (valsOf q (M.take k)).length ≤ 20 := Nat.le_trans (valsOf_len _ _) (by rw [List.length_take]; omega)
      have gk : (k : Int) < m := by omega
      clear hr HD HZ hwr
      have KY := @valsOf_yes q r (M.take k)
      have KN := @valsOf_no q r (M.take k)
      obtain ⟨rn, rv⟩ := r
      simp only at p1 p3 z1 z2 KY KN
      have SN := fun w => smallName_any rn w (by omega)
      have HSN : Hid (∀ w, Calls Tryz.prog 60 #[.string rn] w fun e w' => e = .returned (.string (lowS rn)) ∧ Below w.heap.size w w') := SN
      clear SN
      by_cases he : lowS rn = q
      · have HX : Hid (valsOf q (M.take (k + 1)) = valsOf q (M.take k) ++ [rv]) := by show _ = _; rw [HK.out]; exact KY he
        rw [he] at HSN
        clear KY KN HK he
        generalize valsOf q (M.take k) = L at *
        go_wp2_with fail
        refine (HSN.out _).mono ?_
        rintro e w4 ⟨rfl, hb4⟩
        obtain ⟨hz4, c0, c1, kb⟩ := hdr_room hb4
        have HO4 : Hid (OwnS w4 (w.heap.size + 1) u9 L) := HO.out.below kb
        have HB4 : Hid (Below (w.heap.size + 1) (w.alloc (.cells #[.int .i64 0, .string ⟨#[]⟩] 50)) w4) := hb.trans (kb.mono hz)
        have hz5 : w.heap.size + 1 ≤ w4.heap.size := Nat.le_trans hz kb.size
        clear hb4 kb hb HO p1 p3
        go_wp2_with (at_builtin; refine wpList_append_str _ rfl (.tmp 44) (.tmp 47) rfl (w.heap.size + 1) _ L rv rfl rfl HO4.out (by omega) hz5 ?_; intro v6 w6 HO6 hb6 hz6)
        go_roundw
        case rel => exact ⟨k + 1, by omega, by go_num, by rw [HX.out]; exact HO6, HB4.out.trans hb6⟩
        case measure => simp [intOf]; omega
      · have HX : Hid (valsOf q (M.take (k + 1)) = valsOf q (M.take k)) := by show _ = _; rw [HK.out]; exact KN he
        have hq := hstr_ne he
        clear KY KN HK he
        generalize lowS rn = q2 at *
        generalize valsOf q (M.take k) = L at *
        go_wp2_with fail
        refine (HSN.out _).mono ?_
        rintro e w4 ⟨rfl, hb4⟩
        obtain ⟨hz4, c0, c1, kb⟩ := hdr_room hb4
        have HO4 : Hid (OwnS w4 (w.heap.size + 1) u9 L) := HO.out.below kb
        have HB4 : Hid (Below (w.heap.size + 1) (w.alloc (.cells #[.int .i64 0, .string ⟨#[]⟩] 50)) w4) := hb.trans (kb.mono hz)
        clear hb4 kb hb HO p1 p3
        go_wp2_with fail
        go_roundw
        case rel => exact ⟨k + 1, by omega, by go_num, by rw [HX.out]; exact HO4.out, HB4.out⟩
        case measure => simp [intOf]; omega
    · have ek : M.take k = M := List.take_of_length_le (by have := HN.out; omega)
      have HO2 := HO.out
      rw [ek, HV.out] at HO2
      have HJ := join_own wr _ u9 _ HO2 (by omega) (by show (hjoinL (valsOf q l)).length ≤ _; omega)
      have HT : Hid ((⟨(hjoinL (valsOf q l)).toArray⟩ : ByteArray).size ≤ 4040) := by show _ ≤ _; simpa [ByteArray.size] using hJL
      have HJ2 : Hid (Calls Tryz.prog 66 #[u9, .string ⟨#[44, 32]⟩] wr fun e w' => e = .returned (.string ⟨(hjoinL (valsOf q l)).toArray⟩) ∧ Below wr.heap.size wr w') := HJ
      obtain ⟨jt, HJT⟩ : ∃ jt, Hid ((⟨(hjoinL (valsOf q l)).toArray⟩ : ByteArray) = jt) := ⟨_, rfl⟩
      rw [HJT.out] at HT HJ2
      have hjt := HT.out
      have HBr : Hid (Below (w.heap.size + 1) (w.alloc (.cells #[.int .i64 0, .string ⟨#[]⟩] 50)) wr) := hb
      clear HT HJ HO2 HO ek hwr hb HD HZ
      go_wp2_with fail
      refine HJ2.out.mono ?_
      rintro e w4 ⟨rfl, hb4⟩
      go_wp2_with fail
      refine (hclone_any jt _ (by omega)).mono ?_
      rintro e w5 ⟨rfl, hb5⟩
      obtain ⟨hz6, q0, q1, f0, f1, kb⟩ := text_room (HBr.out.trans ((hb4.trans (hb5.mono hb4.size)).mono hz))
      obtain ⟨r0, r1⟩ := two_set (v0 := .int .i64 0) (v1 := .string jt) q0 q1
      clear hb4 hb5 HJ2 HBr
      go_wp2_with fail
      exact bodyPost_ret (v := .agg #[.int .i64 0, .string jt]) (by simp [results, Tryz.results61, go_sem, r0, r1]) rfl ⟨by rw [HJT.out], (kb.setCell (Nat.le_refl _) _).setCell (Nat.le_refl _) _⟩
set_option maxRecDepth 100000 in
set_option maxHeartbeats 4000000 in
theorem implJoin_any (w : World) (a : Option Addr) (cap : Nat) (l : List Hdr) (name : ByteArray) (hl : l.length ≤ 1048576) (hcap : l.length ≤ cap) (hset : SetIs w) (hi : HdsIn w a l) :
    Calls Tryz.prog 61 #[.slice a l.length cap, .string name] w fun e w' => e = .returned (.agg #[.int .i64 (joinC l name), .string (joinT l name)]) ∧ Below w.heap.size w w' := by
  have HA : Hid (∀ W, Below w.heap.size w W → Calls Tryz.prog 94 #[.slice a l.length cap, .string name] W fun e w' => e = .returned (.int .i64 (askC l name)) ∧ Below W.heap.size W w') := fun W hb => namedFault_any W a cap l name hl (hset.below hb) (hi.keep hb)
  by_cases h0 : askC l name = 0
  · cases hf : firstAt (lowS name) l with
    | some i =>
      have hv : ¬ valsOf (lowS name) l = [] := fun e => by rw [valsOf_first.1 e] at hf; cases hf
      rw [(join_some h0 hv).1, (join_some h0 hv).2]
      have hil := firstAt_lt hf
      rcases hi with h | ⟨b, off, rfl, hat⟩
      · subst h; simp at hil
      · exact implJoin_found w b off cap l name i h0 hf hcap hset hat
    | none =>
      have hv : valsOf (lowS name) l = [] := valsOf_first.2 hf
      rw [(join_none h0 hv).1, (join_none h0 hv).2]
      obtain ⟨h20, hz, hnm⟩ := asked h0
      have HP : Hid (∀ W, Below w.heap.size w W → Calls Tryz.prog 95 #[.slice a l.length cap] W fun e w' => e = .returned (.map (some W.heap.size)) ∧ NamesMap w' W.heap.size 20 (fun x => firstAt x l) ∧ Below W.heap.size W w') := fun W hb => firstPlaces_any W a cap l h20 (fun i r hr => (hz i r hr).1) (hi.keep hb)
      have HS : Hid (∀ W, Calls Tryz.prog 60 #[.string name] W fun e w' => e = .returned (.string (lowS name)) ∧ Below W.heap.size W w') := fun W => smallName_any name W (by omega)
      have HF : Hid (firstAt (lowS name) l = none) := hf
      have sz := lowS_size name
      rw [h0] at HA
      clear hi hz h0 h20 hset hf hv
      generalize l.length = n at *
      generalize lowS name = q at *
      go_enter Tryz.func61, Tryz.ntmps61
      go_wp2_with fail
      refine (HA.out _ ((Below.refl _ _).alloc (Nat.le_refl _) _)).mono ?_
      rintro e w1 ⟨rfl, hb1⟩
      rw [World.size_alloc] at hb1
      have HB1 : Hid (Below (w.heap.size + 1) (w.alloc (.cells #[.int .i64 0, .string ⟨#[]⟩] 50)) w1) := hb1
      have hz1 : w.heap.size + 1 ≤ w1.heap.size := by have := hb1.size; rwa [World.size_alloc] at this
      clear hb1 HA
      go_wp2_with fail
      refine (HS.out _).mono ?_
      rintro e w2 ⟨rfl, hb2⟩
      have HB2 : Hid (Below (w.heap.size + 1) (w.alloc (.cells #[.int .i64 0, .string ⟨#[]⟩] 50)) w2) := HB1.out.trans (hb2.mono hz1)
      have hz2 : w.heap.size + 1 ≤ w2.heap.size := Nat.le_trans hz1 hb2.size
      clear hb2 HB1 HS hz1
      go_wp2_with fail
      refine (HP.out _ (text_room HB2.out).2.2.2.2.2).mono ?_
      rintro e w3 ⟨rfl, hm3, hb3⟩
      obtain ⟨hz3, q0, q1, f0, f1, kb⟩ := text_room (HB2.out.trans (hb3.mono hz2))
      obtain ⟨r0, r1⟩ := two_set (v0 := .int .i64 4) (v1 := .string ⟨#[]⟩) q0 q1
      have HM3 : Hid (NamesMap w3 w2.heap.size 20 (fun x => firstAt x l)) := hm3
      clear hb3 HB2 hm3 HP hz2
      generalize w2.heap.size = B at *
      try clear w2
      go_wp2_with (at_lookup; refine wpList_look_none _ rfl _ _ rfl B 20 _ rfl HM3.out q rfl (by omega) HF.out ?_)
      exact bodyPost_ret (v := .agg #[.int .i64 4, .string ⟨#[]⟩]) (by simp [results, Tryz.results61, go_sem, r0, r1]) rfl ⟨rfl, (kb.setCell (Nat.le_refl _) _).setCell (Nat.le_refl _) _⟩
  · rw [(join_bad h0).1, (join_bad h0).2]
    clear hi hset
    generalize askC l name = fc at *
    generalize l.length = n at *
    go_enter Tryz.func61, Tryz.ntmps61
    go_wp2_with fail
    refine (HA.out _ ((Below.refl _ _).alloc (Nat.le_refl _) _)).mono ?_
    rintro e w1 ⟨rfl, hb1⟩
    rw [World.size_alloc] at hb1
    obtain ⟨hz2, q0, q1, f0, f1, kb⟩ := text_room hb1
    obtain ⟨r0, r1⟩ := two_set (v0 := .int .i64 fc) (v1 := .string ⟨#[]⟩) q0 q1
    clear hb1 HA
    go_wp2_with fail
    exact bodyPost_ret (v := .agg #[.int .i64 fc, .string ⟨#[]⟩]) (by simp [results, Tryz.results61, go_sem, r0, r1]) rfl ⟨rfl, (kb.setCell (Nat.le_refl _) _).setCell (Nat.le_refl _) _⟩
end Go.Proofs.YtonnggelpjjmmaaGreatDoor
/-
  Requests and responses as bytes, plainly. No Go in sight.
-/
namespace Go.Proofs.YtonnggelpjjmmaaGreatDoor
def hostT : ByteArray := ⟨#[72, 111, 115, 116]⟩
theorem hostT_low : lowS hostT = hostN := by decide +kernel
theorem hostN_low : lowS hostN = hostN := by decide +kernel
theorem hostT_word : wordS hostT = true := by decide +kernel
theorem trim_plain (s : ByteArray) (h : ∀ c ∈ s.data.toList, blankI (c.toNat : Int) = false) : trimT s = s := by
  have e := trim_between s.data.toList 0 s.data.toList.length (Nat.zero_le _) (Nat.le_refl _) (fun j b hj _ => absurd hj (by omega)) (fun b _ hb => h b (List.mem_of_getElem? hb))
    (fun j b hj hb => absurd (List.getElem?_eq_some_iff.1 hb).1 (by omega)) (fun b _ hb => h b (List.mem_of_getElem? hb))
  unfold trimT
  rw [e, List.take_length, List.drop_zero]
theorem hostI_plain (c : Int) (h : hostI c = true) : blankI c = false ∧ plainI c = true := by
  simp only [hostI, Bool.or_eq_true, Bool.and_eq_true, decide_eq_true_eq] at h
  constructor
  · simp [blankI]; omega
  · simp [plainI]; omega
theorem hostS_true {h : ByteArray} (hs : hostS h = true) : 1 ≤ h.size ∧ h.size ≤ 60 ∧ ∀ c ∈ h.data.toList, hostI (c.toNat : Int) = true := by
  simp only [hostS, Bool.and_eq_true, decide_eq_true_eq] at hs
  exact ⟨hs.1.1, hs.1.2, allP_mem hs.2⟩
theorem host_line {h : ByteArray} (hs : hostS h = true) : faultH ⟨hostT, h⟩ = 0 := by
  obtain ⟨h1, h2, h3⟩ := hostS_true hs
  unfold faultH
  rw [if_neg (by rw [hostT_word]; decide), if_neg (by simp only; omega), if_neg ?_, if_pos ?_]
  · exact trim_plain h fun c hc => (hostI_plain _ (h3 c hc)).1
  · have : plainL h.data.toList = true := List.all_eq_true.2 fun c hc => (hostI_plain _ (h3 c hc)).2
    simp only [this]; decide
theorem host_heads {h : ByteArray} {l : List Hdr} (hs : hostS h = true) (h0 : headsC l = 0) (hl : l.length < 20) : headsC (⟨hostT, h⟩ :: l) = 0 := by
  rw [headsC_few (by simp only [List.length_cons]; omega), faultHL_ok (host_line hs)]
  rw [headsC_few (by omega)] at h0
  exact h0
def verL : List UInt8 := [72, 84, 84, 80, 47, 49, 46, 49]
def reqL (m h p : ByteArray) (l : List Hdr) : List UInt8 := m.data.toList ++ [32] ++ p.data.toList ++ [32] ++ verL ++ [13, 10] ++ packL (⟨hostT, h⟩ :: l) ++ [13, 10]
def reqB (m h p : ByteArray) (l : List Hdr) : List UInt8 := if reqC m h p l = 0 then reqL m h p l else []
theorem packL_len {l : List Hdr} (h : headsC l = 0) : (packL l).length ≤ 268 * l.length := by
  have h2 := (headsC_zero h).2
  have : ∀ l : List Hdr, (∀ r ∈ l, faultH r = 0) → (packL l).length ≤ 268 * l.length := fun l => by
    induction l with
    | nil => intro _; simp [packL]
    | cons r l ih =>
      intro hh
      have a := lineL_len (hh r (by simp))
      have b := ih fun x hx => hh x (by simp [hx])
      simp only [packL, List.flatMap_cons, List.length_append, List.length_cons] at b ⊢
      omega
  refine this l fun r hr => ?_
  obtain ⟨i, hi⟩ := List.getElem?_of_mem hr
  exact h2 i r hi
theorem packL_cons (r : Hdr) (l : List Hdr) : packL (r :: l) = lineL r ++ packL l := by simp [packL]
end Go.Proofs.YtonnggelpjjmmaaGreatDoor
/-
  What RequestFault and its model answer.
-/
namespace Go.Proofs.YtonnggelpjjmmaaGreatDoor
open Go.ChangeShapes Go.WideShapes Go.ChangeAt Go.RowKit
theorem heads_sizes {l : List Hdr} (h : headsC l = 0) : l.length ≤ 20 ∧ ∀ (i : Nat) r, l[i]? = some r → r.name.size ≤ 64 ∧ r.value.size ≤ 200 := by
  obtain ⟨h1, h2⟩ := headsC_zero h
  refine ⟨h1, fun i r hr => ?_⟩
  obtain ⟨a, b, _⟩ := faultH_zero (h2 i r hr)
  exact ⟨hword_max a, b⟩
theorem lit_ne {m : ByteArray} {l : List UInt8} (h : ¬ m = ⟨l.toArray⟩) : (m.toList == l) = false := by
  rw [beq_eq_false_iff_ne, ByteArray.toList_eq]
  intro e
  apply h
  rw [← e]
theorem anyV_nil {vs : List ByteArray} (h : vs = []) : anyV vs = false := by subst h; rfl
theorem anyV_some {vs : List ByteArray} (h : vs ≠ []) : anyV vs = true := by simpa [anyV] using h
/-- A request, boxed. -/
def rqV (m h p : ByteArray) (a : Option Addr) (n cap : Nat) : Value := .agg #[.string m, .string h, .string p, .slice a n cap]
theorem reqJoin {l : List Hdr} (h : headsC l = 0) : (valsOf hostN l ≠ [] → joinC l ⟨#[72, 111, 115, 116]⟩ = 0) ∧ (valsOf hostN l = [] → joinC l ⟨#[72, 111, 115, 116]⟩ = 4) := by
  have e0 : askC l hostT = 0 := askC_word h hostT_word
  refine ⟨fun hv => ?_, fun hv => ?_⟩
  · exact (join_some e0 (by rw [hostT_low]; exact hv)).1
  · exact (join_none e0 (by rw [hostT_low]; exact hv)).1
set_option maxHeartbeats 4000000 in
theorem specReq_get (w : World) (h p : ByteArray) (a : Option Addr) (cap : Nat) (l : List Hdr) (hl : l.length ≤ 1048576) (hi : HdsIn w a l) :
    Calls Tryz.prog 11 #[.agg #[.string ⟨#[71, 69, 84]⟩, .string h, .string p, .slice a l.length cap]] w fun e w' => e = .returned (.int .i64 (reqC ⟨#[71, 69, 84]⟩ h p l)) ∧ Below w.heap.size w w' := by
  have HM : methS ⟨#[71, 69, 84]⟩ = true := by decide +kernel
  have CH := fun W => l5Host_any h W
  have CP := fun W => l5Path_any p W
  have bW : Below w.heap.size w (w.alloc (.cells #[.string ⟨#[71, 69, 84]⟩, .string h, .string p, .slice a l.length cap] 26)) := (Below.refl _ _).alloc (Nat.le_refl _) _
  cases ch : hostS h
  · have HE : Hid (reqC ⟨#[71, 69, 84]⟩ h p l = 5) := reqC_bad (by simp [lineS, ch])
    simp only [ch] at CH
    have HB : Hid (Below w.heap.size w (w.alloc (.cells #[.string ⟨#[71, 69, 84]⟩, .string h, .string p, .slice a l.length cap] 26))) := bW
    clear bW HM hi ch CP
    go_enter Tryz.func11, Tryz.ntmps11
    go_wp2_with (go_at_call 34; refine (CH _).mono ?_; rintro e w' ⟨rfl, rfl⟩)
    go_ret
    exact ⟨ret_int HE.out.symm, HB.out⟩
  simp only [ch] at CH
  cases cp : pathS p
  · have HE : Hid (reqC ⟨#[71, 69, 84]⟩ h p l = 5) := reqC_bad (by simp [lineS, cp])
    simp only [cp] at CP
    have HB : Hid (Below w.heap.size w (w.alloc (.cells #[.string ⟨#[71, 69, 84]⟩, .string h, .string p, .slice a l.length cap] 26))) := bW
    clear bW HM hi ch cp
    go_enter Tryz.func11, Tryz.ntmps11
    go_wp2_with (first | (go_at_call 34; refine (CH _).mono ?_; rintro e w' ⟨rfl, rfl⟩) | (go_at_call 35; refine (CP _).mono ?_; rintro e w' ⟨rfl, rfl⟩))
    go_ret
    exact ⟨ret_int HE.out.symm, HB.out⟩
  simp only [cp] at CP
  have hls : lineS ⟨#[71, 69, 84]⟩ h p = true := by simp [lineS, HM, ch, cp]
  have HR : Hid (reqC ⟨#[71, 69, 84]⟩ h p l = restC l) := reqC_ok hls
  obtain ⟨W, hW⟩ : ∃ W, W = w.alloc (.cells #[.string ⟨#[71, 69, 84]⟩, .string h, .string p, .slice a l.length cap] 26) := ⟨_, rfl⟩
  have HW : Hid (W = w.alloc (.cells #[.string ⟨#[71, 69, 84]⟩, .string h, .string p, .slice a l.length cap] 26)) := hW
  have hc3 : W.cell? ⟨w.heap.size, 3, none⟩ = some (.slice a l.length cap) := by rw [hW, World.cell?_alloc_mark]; rfl
  rw [← hW] at bW
  have hlt : w.heap.size < W.heap.size := by rw [hW]; simp
  have CF := specHFault_any W a cap l hl (hi.keep bW)
  have HI : Hid (HdsIn w a l) := hi
  have HB : Hid (Below w.heap.size w W) := bW
  clear hi bW hW ch cp hls HM
  go_enter Tryz.func11, Tryz.ntmps11
  go_wp2_with (first | (go_at_call 34; refine (CH _).mono ?_; rintro e w' ⟨rfl, rfl⟩) | (go_at_call 35; refine (CP _).mono ?_; rintro e w' ⟨rfl, rfl⟩))
  rw [← HW.out]
  refine CF.mono ?_
  rintro e w1 ⟨rfl, hb1⟩
  clear CF CH CP HW
  have hc3' : w1.cell? ⟨w.heap.size, 3, none⟩ = some (.slice a l.length cap) := by rw [hb1.cell (p := ⟨w.heap.size, 3, none⟩) hlt]; exact hc3
  have HB1 : Hid (Below w.heap.size w w1) := HB.out.trans (hb1.mono HB.out.size)
  have hlt1 : w.heap.size < w1.heap.size := Nat.lt_of_lt_of_le hlt hb1.size
  clear hb1 hc3 hlt HB
  by_cases c0 : headsC l = 0
  · obtain ⟨s1, s2⟩ := heads_sizes c0
    have CJ := l4Join_any w1 a cap l hostN s1 s2 (by decide) (HI.out.keep HB1.out)
    rw [hostN_low] at CJ
    have HJ : Hid (Calls Tryz.prog 37 #[.slice a l.length cap, .string ⟨#[104, 111, 115, 116]⟩] w1 fun e w' => e = .returned (.tuple #[.string ⟨(hjoinL (valsOf hostN l)).toArray⟩, .bool (anyV (valsOf hostN l))]) ∧ Below w1.heap.size w1 w') := CJ
    have HE1 : Hid (valsOf hostN l ≠ [] → restC l = 6) := fun hv => restC_host c0 hv
    have HE2 : Hid (valsOf hostN l = [] → 20 ≤ l.length → restC l = 2) := fun hv hn => restC_many c0 hv hn
    have HE3 : Hid (valsOf hostN l = [] → ¬ 20 ≤ l.length → restC l = 0) := fun hv hn => restC_ok c0 hv hn
    rw [c0]
    clear c0 s2 CJ HI
    generalize (⟨(hjoinL (valsOf hostN l)).toArray⟩ : ByteArray) = t at *
    go_wp2_with fail
    refine HJ.out.mono ?_
    rintro e w2 ⟨rfl, hb2⟩
    have hc4 : w2.cell? ⟨w.heap.size, 3, none⟩ = some (.slice a l.length cap) := by rw [hb2.cell (p := ⟨w.heap.size, 3, none⟩) hlt1]; exact hc3'
    have HB2 : Hid (Below w.heap.size w w2) := HB1.out.trans (hb2.mono HB1.out.size)
    clear hb2 HJ hc3' hlt1
    by_cases cv : valsOf hostN l = []
    · rw [anyV_nil cv]
      by_cases cn : 20 ≤ l.length
      · have HE : Hid (reqC ⟨#[71, 69, 84]⟩ h p l = 2) := by show _ = _; rw [HR.out]; exact HE2.out cv cn
        have cn' : (20 : Int) ≤ l.length := by omega
        clear HE1 HE2 HE3 HR cv cn
        generalize l.length = n at *
        go_wp2_with fail
        go_ret
        exact ⟨ret_int HE.out.symm, HB2.out⟩
      · have HE : Hid (reqC ⟨#[71, 69, 84]⟩ h p l = 0) := by show _ = _; rw [HR.out]; exact HE3.out cv cn
        have cn' : ¬ (20 : Int) ≤ l.length := by omega
        clear HE1 HE2 HE3 HR cv cn
        generalize l.length = n at *
        go_wp2_with fail
        go_ret
        exact ⟨ret_int HE.out.symm, HB2.out⟩
    · rw [anyV_some cv]
      have HE : Hid (reqC ⟨#[71, 69, 84]⟩ h p l = 6) := by show _ = _; rw [HR.out]; exact HE1.out cv
      clear HE1 HE2 HE3 HR cv
      go_wp2_with fail
      go_ret
      exact ⟨ret_int HE.out.symm, HB2.out⟩
  · have HE : Hid (reqC ⟨#[71, 69, 84]⟩ h p l = headsC l) := by show _ = _; rw [HR.out]; exact restC_heads c0
    clear HR HI
    generalize headsC l = c at *
    go_wp2_with fail
    go_ret
    exact ⟨ret_int HE.out.symm, HB1.out⟩
set_option maxHeartbeats 4000000 in
theorem specReq_head (w : World) (h p : ByteArray) (a : Option Addr) (cap : Nat) (l : List Hdr) (hl : l.length ≤ 1048576) (hi : HdsIn w a l) :
    Calls Tryz.prog 11 #[.agg #[.string ⟨#[72, 69, 65, 68]⟩, .string h, .string p, .slice a l.length cap]] w fun e w' => e = .returned (.int .i64 (reqC ⟨#[72, 69, 65, 68]⟩ h p l)) ∧ Below w.heap.size w w' := by
  have HM : methS ⟨#[72, 69, 65, 68]⟩ = true := by decide +kernel
  have CH := fun W => l5Host_any h W
  have CP := fun W => l5Path_any p W
  have bW : Below w.heap.size w (w.alloc (.cells #[.string ⟨#[72, 69, 65, 68]⟩, .string h, .string p, .slice a l.length cap] 26)) := (Below.refl _ _).alloc (Nat.le_refl _) _
  cases ch : hostS h
  · have HE : Hid (reqC ⟨#[72, 69, 65, 68]⟩ h p l = 5) := reqC_bad (by simp [lineS, ch])
    simp only [ch] at CH
    have HB : Hid (Below w.heap.size w (w.alloc (.cells #[.string ⟨#[72, 69, 65, 68]⟩, .string h, .string p, .slice a l.length cap] 26))) := bW
    clear bW HM hi ch CP
    go_enter Tryz.func11, Tryz.ntmps11
    go_wp2_with (go_at_call 34; refine (CH _).mono ?_; rintro e w' ⟨rfl, rfl⟩)
    go_ret
    exact ⟨ret_int HE.out.symm, HB.out⟩
  simp only [ch] at CH
  cases cp : pathS p
  · have HE : Hid (reqC ⟨#[72, 69, 65, 68]⟩ h p l = 5) := reqC_bad (by simp [lineS, cp])
    simp only [cp] at CP
    have HB : Hid (Below w.heap.size w (w.alloc (.cells #[.string ⟨#[72, 69, 65, 68]⟩, .string h, .string p, .slice a l.length cap] 26))) := bW
    clear bW HM hi ch cp
    go_enter Tryz.func11, Tryz.ntmps11
    go_wp2_with (first | (go_at_call 34; refine (CH _).mono ?_; rintro e w' ⟨rfl, rfl⟩) | (go_at_call 35; refine (CP _).mono ?_; rintro e w' ⟨rfl, rfl⟩))
    go_ret
    exact ⟨ret_int HE.out.symm, HB.out⟩
  simp only [cp] at CP
  have hls : lineS ⟨#[72, 69, 65, 68]⟩ h p = true := by simp [lineS, HM, ch, cp]
  have HR : Hid (reqC ⟨#[72, 69, 65, 68]⟩ h p l = restC l) := reqC_ok hls
  obtain ⟨W, hW⟩ : ∃ W, W = w.alloc (.cells #[.string ⟨#[72, 69, 65, 68]⟩, .string h, .string p, .slice a l.length cap] 26) := ⟨_, rfl⟩
  have HW : Hid (W = w.alloc (.cells #[.string ⟨#[72, 69, 65, 68]⟩, .string h, .string p, .slice a l.length cap] 26)) := hW
  have hc3 : W.cell? ⟨w.heap.size, 3, none⟩ = some (.slice a l.length cap) := by rw [hW, World.cell?_alloc_mark]; rfl
  rw [← hW] at bW
  have hlt : w.heap.size < W.heap.size := by rw [hW]; simp
  have CF := specHFault_any W a cap l hl (hi.keep bW)
  have HI : Hid (HdsIn w a l) := hi
  have HB : Hid (Below w.heap.size w W) := bW
  clear hi bW hW ch cp hls HM
  go_enter Tryz.func11, Tryz.ntmps11
  go_wp2_with (first | (go_at_call 34; refine (CH _).mono ?_; rintro e w' ⟨rfl, rfl⟩) | (go_at_call 35; refine (CP _).mono ?_; rintro e w' ⟨rfl, rfl⟩))
  rw [← HW.out]
  refine CF.mono ?_
  rintro e w1 ⟨rfl, hb1⟩
  clear CF CH CP HW
  have hc3' : w1.cell? ⟨w.heap.size, 3, none⟩ = some (.slice a l.length cap) := by rw [hb1.cell (p := ⟨w.heap.size, 3, none⟩) hlt]; exact hc3
  have HB1 : Hid (Below w.heap.size w w1) := HB.out.trans (hb1.mono HB.out.size)
  have hlt1 : w.heap.size < w1.heap.size := Nat.lt_of_lt_of_le hlt hb1.size
  clear hb1 hc3 hlt HB
  by_cases c0 : headsC l = 0
  · obtain ⟨s1, s2⟩ := heads_sizes c0
    have CJ := l4Join_any w1 a cap l hostN s1 s2 (by decide) (HI.out.keep HB1.out)
    rw [hostN_low] at CJ
    have HJ : Hid (Calls Tryz.prog 37 #[.slice a l.length cap, .string ⟨#[104, 111, 115, 116]⟩] w1 fun e w' => e = .returned (.tuple #[.string ⟨(hjoinL (valsOf hostN l)).toArray⟩, .bool (anyV (valsOf hostN l))]) ∧ Below w1.heap.size w1 w') := CJ
    have HE1 : Hid (valsOf hostN l ≠ [] → restC l = 6) := fun hv => restC_host c0 hv
    have HE2 : Hid (valsOf hostN l = [] → 20 ≤ l.length → restC l = 2) := fun hv hn => restC_many c0 hv hn
    have HE3 : Hid (valsOf hostN l = [] → ¬ 20 ≤ l.length → restC l = 0) := fun hv hn => restC_ok c0 hv hn
    rw [c0]
    clear c0 s2 CJ HI
    generalize (⟨(hjoinL (valsOf hostN l)).toArray⟩ : ByteArray) = t at *
    go_wp2_with fail
    refine HJ.out.mono ?_
    rintro e w2 ⟨rfl, hb2⟩
    have hc4 : w2.cell? ⟨w.heap.size, 3, none⟩ = some (.slice a l.length cap) := by rw [hb2.cell (p := ⟨w.heap.size, 3, none⟩) hlt1]; exact hc3'
    have HB2 : Hid (Below w.heap.size w w2) := HB1.out.trans (hb2.mono HB1.out.size)
    clear hb2 HJ hc3' hlt1
    by_cases cv : valsOf hostN l = []
    · rw [anyV_nil cv]
      by_cases cn : 20 ≤ l.length
      · have HE : Hid (reqC ⟨#[72, 69, 65, 68]⟩ h p l = 2) := by show _ = _; rw [HR.out]; exact HE2.out cv cn
        have cn' : (20 : Int) ≤ l.length := by omega
        clear HE1 HE2 HE3 HR cv cn
        generalize l.length = n at *
        go_wp2_with fail
        go_ret
        exact ⟨ret_int HE.out.symm, HB2.out⟩
      · have HE : Hid (reqC ⟨#[72, 69, 65, 68]⟩ h p l = 0) := by show _ = _; rw [HR.out]; exact HE3.out cv cn
        have cn' : ¬ (20 : Int) ≤ l.length := by omega
        clear HE1 HE2 HE3 HR cv cn
        generalize l.length = n at *
        go_wp2_with fail
        go_ret
        exact ⟨ret_int HE.out.symm, HB2.out⟩
    · rw [anyV_some cv]
      have HE : Hid (reqC ⟨#[72, 69, 65, 68]⟩ h p l = 6) := by show _ = _; rw [HR.out]; exact HE1.out cv
      clear HE1 HE2 HE3 HR cv
      go_wp2_with fail
      go_ret
      exact ⟨ret_int HE.out.symm, HB2.out⟩
  · have HE : Hid (reqC ⟨#[72, 69, 65, 68]⟩ h p l = headsC l) := by show _ = _; rw [HR.out]; exact restC_heads c0
    clear HR HI
    generalize headsC l = c at *
    go_wp2_with fail
    go_ret
    exact ⟨ret_int HE.out.symm, HB1.out⟩
set_option maxHeartbeats 1000000 in
theorem specReq_any (w : World) (m h p : ByteArray) (a : Option Addr) (cap : Nat) (l : List Hdr) (hl : l.length ≤ 1048576) (hi : HdsIn w a l) :
    Calls Tryz.prog 11 #[.agg #[.string m, .string h, .string p, .slice a l.length cap]] w fun e w' => e = .returned (.int .i64 (reqC m h p l)) ∧ Below w.heap.size w w' := by
  by_cases c1 : m = ⟨#[71, 69, 84]⟩
  · subst c1; exact specReq_get w h p a cap l hl hi
  by_cases c2 : m = ⟨#[72, 69, 65, 68]⟩
  · subst c2; exact specReq_head w h p a cap l hl hi
  have HE : Hid (reqC m h p l = 5) := reqC_bad (by
    have : methS m = false := by simp only [methS, getT, headT, c1, c2, decide_false]; rfl
    simp [lineS, this])
  have d1 : (m.toList == [71, 69, 84]) = false := lit_ne c1
  have d2 : (m.toList == [72, 69, 65, 68]) = false := lit_ne c2
  clear c1 c2
  clear hi
  go_enter Tryz.func11, Tryz.ntmps11
  go_wp2_with fail
  go_ret
  exact ⟨ret_int HE.out.symm, (Below.refl _ _).alloc (Nat.le_refl _) _⟩
set_option maxHeartbeats 8000000 in
theorem implReq_get (E : Errs) (w : World) (h p : ByteArray) (a : Option Addr) (cap : Nat) (l : List Hdr) (hl : l.length ≤ 1048576) (hcap : l.length ≤ cap) (hps : p.size ≤ 1048576) (hset : SetIs w) (hE : ErrsIs w E) (hi : HdsIn w a l) :
    Calls Tryz.prog 39 #[.agg #[.string ⟨#[71, 69, 84]⟩, .string h, .string p, .slice a l.length cap]] w fun e w' => e = .returned (errV E (reqC ⟨#[71, 69, 84]⟩ h p l)) ∧ Below w.heap.size w w' := by
  have HM : methS ⟨#[71, 69, 84]⟩ = true := by decide +kernel
  obtain ⟨W, hW⟩ : ∃ W, W = w.alloc (.cells #[.string ⟨#[71, 69, 84]⟩, .string h, .string p, .slice a l.length cap] 26) := ⟨_, rfl⟩
  have bW : Below w.heap.size w W := by rw [hW]; exact (Below.refl _ _).alloc (Nat.le_refl _) _
  have HW : Hid (W = w.alloc (.cells #[.string ⟨#[71, 69, 84]⟩, .string h, .string p, .slice a l.length cap] 26)) := hW
  have hlt : w.heap.size < W.heap.size := by rw [hW]; simp
  have hc2 : W.cell? ⟨w.heap.size, 2, none⟩ = some (.string p) := by rw [hW, World.cell?_alloc_mark]; rfl
  have hc3 : W.cell? ⟨w.heap.size, 3, none⟩ = some (.slice a l.length cap) := by rw [hW, World.cell?_alloc_mark]; rfl
  clear hW
  have CH := isHost_any h W
  have HI : Hid (∀ X, Below w.heap.size w X → HdsIn X a l) := fun X hb => hi.keep hb
  have HS : Hid (∀ X, Below w.heap.size w X → SetIs X) := fun X hb => hset.below hb
  have HE0 : Hid (∀ X, Below w.heap.size w X → ErrsIs X E) := fun X hb => hE.below hb
  have HB : Hid (Below w.heap.size w W) := bW
  clear hi hset hE bW
  cases ch : hostS h
  · have HE : Hid (errV E (reqC ⟨#[71, 69, 84]⟩ h p l) = .iface 230 (.pointer (some E.u))) := by show _ = _; rw [reqC_bad (by simp [lineS, ch])]; rfl
    simp only [ch] at CH
    clear HM ch hc2 hc3 hlt
    go_enter Tryz.func39, Tryz.ntmps39
    go_wp2_with fail
    rw [← HW.out]
    refine CH.mono ?_
    rintro e w1 ⟨rfl, hb1⟩
    have HB1 : Hid (Below w.heap.size w w1) := HB.out.trans (hb1.mono HB.out.size)
    have gU := (HE0.out _ HB1.out).gU
    clear CH HW hb1 HB HE0
    go_wp2_with fail
    go_ret
    exact ⟨congrArg Ending.returned HE.out.symm, HB1.out⟩
  simp only [ch] at CH
  have CP : Hid (∀ X, Below w.heap.size w X → Calls Tryz.prog 80 #[.string p] X fun e w' => e = .returned (.bool (pathS p)) ∧ Below X.heap.size X w') := fun X hb => isPath_any p X (HS.out X hb) hps
  cases cp : pathS p
  · have HE : Hid (errV E (reqC ⟨#[71, 69, 84]⟩ h p l) = .iface 230 (.pointer (some E.u))) := by show _ = _; rw [reqC_bad (by simp [lineS, cp])]; rfl
    rw [cp] at CP
    clear HM ch cp hc3 hps
    go_enter Tryz.func39, Tryz.ntmps39
    go_wp2_with fail
    rw [← HW.out]
    refine CH.mono ?_
    rintro e w1 ⟨rfl, hb1⟩
    have HB1 : Hid (Below w.heap.size w w1) := HB.out.trans (hb1.mono HB.out.size)
    have hc2' : w1.cell? ⟨w.heap.size, 2, none⟩ = some (.string p) := by rw [hb1.cell (p := ⟨w.heap.size, 2, none⟩) hlt]; exact hc2
    clear CH HW hb1 HB hc2 hlt
    have C2 := CP.out w1 HB1.out
    go_wp2_with fail
    refine C2.mono ?_
    rintro e w2 ⟨rfl, hb2⟩
    have HB2 : Hid (Below w.heap.size w w2) := HB1.out.trans (hb2.mono HB1.out.size)
    have gU := (HE0.out _ HB2.out).gU
    clear C2 CP hb2 HB1 HE0 hc2'
    go_wp2_with fail
    go_ret
    exact ⟨congrArg Ending.returned HE.out.symm, HB2.out⟩
  rw [cp] at CP
  have hls : lineS ⟨#[71, 69, 84]⟩ h p = true := by simp [lineS, HM, ch, cp]
  have HR : Hid (reqC ⟨#[71, 69, 84]⟩ h p l = restC l) := reqC_ok hls
  have HK := headsC_codes l
  have CF : Hid (∀ X, Below w.heap.size w X → Calls Tryz.prog 69 #[.slice a l.length cap] X fun e w' => e = .returned (.int .i64 (headsC l)) ∧ Below X.heap.size X w') := fun X hb => implHFault_any X a cap l hl (HS.out X hb) (HI.out X hb)
  clear hls HM ch cp hps
  go_enter Tryz.func39, Tryz.ntmps39
  go_wp2_with fail
  rw [← HW.out]
  refine CH.mono ?_
  rintro e w1 ⟨rfl, hb1⟩
  have HB1 : Hid (Below w.heap.size w w1) := HB.out.trans (hb1.mono HB.out.size)
  have hc2' : w1.cell? ⟨w.heap.size, 2, none⟩ = some (.string p) := by rw [hb1.cell (p := ⟨w.heap.size, 2, none⟩) hlt]; exact hc2
  have hc3' : w1.cell? ⟨w.heap.size, 3, none⟩ = some (.slice a l.length cap) := by rw [hb1.cell (p := ⟨w.heap.size, 3, none⟩) hlt]; exact hc3
  have hlt1 : w.heap.size < w1.heap.size := Nat.lt_of_lt_of_le hlt hb1.size
  clear CH HW hb1 HB hc2 hc3 hlt
  have C2 := CP.out w1 HB1.out
  go_wp2_with fail
  refine C2.mono ?_
  rintro e w2 ⟨rfl, hb2⟩
  have HB2 : Hid (Below w.heap.size w w2) := HB1.out.trans (hb2.mono HB1.out.size)
  have hc3 : w2.cell? ⟨w.heap.size, 3, none⟩ = some (.slice a l.length cap) := by rw [hb2.cell (p := ⟨w.heap.size, 3, none⟩) hlt1]; exact hc3'
  have hlt2 : w.heap.size < w2.heap.size := Nat.lt_of_lt_of_le hlt1 hb2.size
  clear C2 CP hb2 HB1 hc2' hc3' hlt1
  have C3 := CF.out w2 HB2.out
  go_wp2_with fail
  refine C3.mono ?_
  rintro e w3 ⟨rfl, hb3⟩
  have HB3 : Hid (Below w.heap.size w w3) := HB2.out.trans (hb3.mono HB2.out.size)
  have hc3' : w3.cell? ⟨w.heap.size, 3, none⟩ = some (.slice a l.length cap) := by rw [hb3.cell (p := ⟨w.heap.size, 3, none⟩) hlt2]; exact hc3
  have hlt3 : w.heap.size < w3.heap.size := Nat.lt_of_lt_of_le hlt2 hb3.size
  clear C3 CF hb3 HB2 hc3 hlt2
  have C4 := headError_any E (headsC l) w3 (HE0.out _ HB3.out) HK
  by_cases c0 : headsC l = 0
  · rw [c0] at C4
    rw [errV0] at C4
    rw [c0]
    have CJ : Calls Tryz.prog 61 #[.slice a l.length cap, .string ⟨#[72, 111, 115, 116]⟩] w3 fun e w' => e = .returned (.agg #[.int .i64 (joinC l ⟨#[72, 111, 115, 116]⟩), .string (joinT l ⟨#[72, 111, 115, 116]⟩)]) ∧ Below w3.heap.size w3 w' := implJoin_any w3 a cap l ⟨#[72, 111, 115, 116]⟩ hl hcap (HS.out _ HB3.out) (HI.out _ HB3.out)
    obtain ⟨hj1, hj2⟩ := reqJoin c0
    have HJ : Hid (Calls Tryz.prog 61 #[.slice a l.length cap, .string ⟨#[72, 111, 115, 116]⟩] w3 fun e w' => e = .returned (.agg #[.int .i64 (joinC l ⟨#[72, 111, 115, 116]⟩), .string (joinT l ⟨#[72, 111, 115, 116]⟩)]) ∧ Below w3.heap.size w3 w') := CJ
    clear CJ
    generalize joinT l ⟨#[72, 111, 115, 116]⟩ = jt at *
    by_cases cv : valsOf hostN l = []
    · rw [hj2 cv] at HJ
      have HN := (headsC_zero c0).1
      clear hj1 hj2 HI HS HK
      by_cases cn : 20 ≤ l.length
      · have HE : Hid (errV E (reqC ⟨#[71, 69, 84]⟩ h p l) = .iface 230 (.pointer (some E.m))) := by show _ = _; rw [HR.out, restC_many c0 cv cn]; rfl
        have cn' : (l.length : Int) = 20 := by omega
        have cb : ((l.length : Int) == 20) = true := by rw [cn']; rfl
        clear HR cv cn cn' c0
        generalize l.length = n at *
        go_wp2_with fail
        refine C4.mono ?_
        rintro e w4 ⟨rfl, hw⟩
        obtain rfl := hw.symm
        clear C4 hw
        go_wp2_with fail
        refine HJ.out.mono ?_
        rintro e w5 ⟨rfl, hb5⟩
        have hc5 : w5.cell? ⟨w.heap.size, 3, none⟩ = some (.slice a n cap) := by rw [hb5.cell (p := ⟨w.heap.size, 3, none⟩) hlt3]; exact hc3'
        have HB5 : Hid (Below w.heap.size w w5) := HB3.out.trans (hb5.mono HB3.out.size)
        have gM := (HE0.out _ HB5.out).gM
        clear hb5 HJ hc3' hlt3 HB3 HE0
        have hfc := f_field_code
        go_wp2_with fail
        go_ret
        exact ⟨congrArg Ending.returned HE.out.symm, HB5.out⟩
      · have HE : Hid (errV E (reqC ⟨#[71, 69, 84]⟩ h p l) = .nilIface) := by show _ = _; rw [HR.out, restC_ok c0 cv cn]; rfl
        have cb : ((l.length : Int) == 20) = false := by rw [beq_eq_false_iff_ne]; omega
        clear HR cv cn c0 HE0
        generalize l.length = n at *
        go_wp2_with fail
        refine C4.mono ?_
        rintro e w4 ⟨rfl, hw⟩
        obtain rfl := hw.symm
        clear C4 hw
        go_wp2_with fail
        refine HJ.out.mono ?_
        rintro e w5 ⟨rfl, hb5⟩
        have hc5 : w5.cell? ⟨w.heap.size, 3, none⟩ = some (.slice a n cap) := by rw [hb5.cell (p := ⟨w.heap.size, 3, none⟩) hlt3]; exact hc3'
        have HB5 : Hid (Below w.heap.size w w5) := HB3.out.trans (hb5.mono HB3.out.size)
        clear hb5 HJ hc3' hlt3 HB3
        have hfc := f_field_code
        go_wp2_with fail
        go_ret
        exact ⟨congrArg Ending.returned HE.out.symm, HB5.out⟩
    · rw [hj1 cv] at HJ
      have HE : Hid (errV E (reqC ⟨#[71, 69, 84]⟩ h p l) = .iface 230 (.pointer (some E.d))) := by show _ = _; rw [HR.out, restC_host c0 cv]; rfl
      clear hj1 hj2 HI HS HK HR cv c0
      generalize l.length = n at *
      go_wp2_with fail
      refine C4.mono ?_
      rintro e w4 ⟨rfl, hw⟩
      obtain rfl := hw.symm
      clear C4 hw
      go_wp2_with fail
      refine HJ.out.mono ?_
      rintro e w5 ⟨rfl, hb5⟩
      have HB5 : Hid (Below w.heap.size w w5) := HB3.out.trans (hb5.mono HB3.out.size)
      have gD := (HE0.out _ HB5.out).gD
      clear hb5 HJ hc3' hlt3 HB3 HE0
      have hfc := f_field_code
      go_wp2_with fail
      go_ret
      exact ⟨congrArg Ending.returned HE.out.symm, HB5.out⟩
  · have HE : Hid (errV E (reqC ⟨#[71, 69, 84]⟩ h p l) = errV E (headsC l)) := by show _ = _; rw [HR.out, restC_heads c0]
    have hv : ∃ x, errV E (headsC l) = .iface 230 (.pointer (some x)) := by
      rcases HK with e | e | e
      · exact absurd e c0
      · rw [e]; exact ⟨_, rfl⟩
      · rw [e]; exact ⟨_, rfl⟩
    obtain ⟨x, hx⟩ := hv
    rw [hx] at C4 HE
    clear HR HI HS HK HE0 c0 hx
    generalize headsC l = c at *
    generalize l.length = n at *
    go_wp2_with fail
    refine C4.mono ?_
    rintro e w4 ⟨rfl, hw⟩
    obtain rfl := hw.symm
    clear C4 hw
    go_wp2_with fail
    go_ret
    exact ⟨congrArg Ending.returned HE.out.symm, HB3.out⟩
set_option maxHeartbeats 8000000 in
theorem implReq_head (E : Errs) (w : World) (h p : ByteArray) (a : Option Addr) (cap : Nat) (l : List Hdr) (hl : l.length ≤ 1048576) (hcap : l.length ≤ cap) (hps : p.size ≤ 1048576) (hset : SetIs w) (hE : ErrsIs w E) (hi : HdsIn w a l) :
    Calls Tryz.prog 39 #[.agg #[.string ⟨#[72, 69, 65, 68]⟩, .string h, .string p, .slice a l.length cap]] w fun e w' => e = .returned (errV E (reqC ⟨#[72, 69, 65, 68]⟩ h p l)) ∧ Below w.heap.size w w' := by
  have HM : methS ⟨#[72, 69, 65, 68]⟩ = true := by decide +kernel
  obtain ⟨W, hW⟩ : ∃ W, W = w.alloc (.cells #[.string ⟨#[72, 69, 65, 68]⟩, .string h, .string p, .slice a l.length cap] 26) := ⟨_, rfl⟩
  have bW : Below w.heap.size w W := by rw [hW]; exact (Below.refl _ _).alloc (Nat.le_refl _) _
  have HW : Hid (W = w.alloc (.cells #[.string ⟨#[72, 69, 65, 68]⟩, .string h, .string p, .slice a l.length cap] 26)) := hW
  have hlt : w.heap.size < W.heap.size := by rw [hW]; simp
  have hc2 : W.cell? ⟨w.heap.size, 2, none⟩ = some (.string p) := by rw [hW, World.cell?_alloc_mark]; rfl
  have hc3 : W.cell? ⟨w.heap.size, 3, none⟩ = some (.slice a l.length cap) := by rw [hW, World.cell?_alloc_mark]; rfl
  clear hW
  have CH := isHost_any h W
  have HI : Hid (∀ X, Below w.heap.size w X → HdsIn X a l) := fun X hb => hi.keep hb
  have HS : Hid (∀ X, Below w.heap.size w X → SetIs X) := fun X hb => hset.below hb
  have HE0 : Hid (∀ X, Below w.heap.size w X → ErrsIs X E) := fun X hb => hE.below hb
  have HB : Hid (Below w.heap.size w W) := bW
  clear hi hset hE bW
  cases ch : hostS h
  · have HE : Hid (errV E (reqC ⟨#[72, 69, 65, 68]⟩ h p l) = .iface 230 (.pointer (some E.u))) := by show _ = _; rw [reqC_bad (by simp [lineS, ch])]; rfl
    simp only [ch] at CH
    clear HM ch hc2 hc3 hlt
    go_enter Tryz.func39, Tryz.ntmps39
    go_wp2_with fail
    rw [← HW.out]
    refine CH.mono ?_
    rintro e w1 ⟨rfl, hb1⟩
    have HB1 : Hid (Below w.heap.size w w1) := HB.out.trans (hb1.mono HB.out.size)
    have gU := (HE0.out _ HB1.out).gU
    clear CH HW hb1 HB HE0
    go_wp2_with fail
    go_ret
    exact ⟨congrArg Ending.returned HE.out.symm, HB1.out⟩
  simp only [ch] at CH
  have CP : Hid (∀ X, Below w.heap.size w X → Calls Tryz.prog 80 #[.string p] X fun e w' => e = .returned (.bool (pathS p)) ∧ Below X.heap.size X w') := fun X hb => isPath_any p X (HS.out X hb) hps
  cases cp : pathS p
  · have HE : Hid (errV E (reqC ⟨#[72, 69, 65, 68]⟩ h p l) = .iface 230 (.pointer (some E.u))) := by show _ = _; rw [reqC_bad (by simp [lineS, cp])]; rfl
    rw [cp] at CP
    clear HM ch cp hc3 hps
    go_enter Tryz.func39, Tryz.ntmps39
    go_wp2_with fail
    rw [← HW.out]
    refine CH.mono ?_
    rintro e w1 ⟨rfl, hb1⟩
    have HB1 : Hid (Below w.heap.size w w1) := HB.out.trans (hb1.mono HB.out.size)
    have hc2' : w1.cell? ⟨w.heap.size, 2, none⟩ = some (.string p) := by rw [hb1.cell (p := ⟨w.heap.size, 2, none⟩) hlt]; exact hc2
    clear CH HW hb1 HB hc2 hlt
    have C2 := CP.out w1 HB1.out
    go_wp2_with fail
    refine C2.mono ?_
    rintro e w2 ⟨rfl, hb2⟩
    have HB2 : Hid (Below w.heap.size w w2) := HB1.out.trans (hb2.mono HB1.out.size)
    have gU := (HE0.out _ HB2.out).gU
    clear C2 CP hb2 HB1 HE0 hc2'
    go_wp2_with fail
    go_ret
    exact ⟨congrArg Ending.returned HE.out.symm, HB2.out⟩
  rw [cp] at CP
  have hls : lineS ⟨#[72, 69, 65, 68]⟩ h p = true := by simp [lineS, HM, ch, cp]
  have HR : Hid (reqC ⟨#[72, 69, 65, 68]⟩ h p l = restC l) := reqC_ok hls
  have HK := headsC_codes l
  have CF : Hid (∀ X, Below w.heap.size w X → Calls Tryz.prog 69 #[.slice a l.length cap] X fun e w' => e = .returned (.int .i64 (headsC l)) ∧ Below X.heap.size X w') := fun X hb => implHFault_any X a cap l hl (HS.out X hb) (HI.out X hb)
  clear hls HM ch cp hps
  go_enter Tryz.func39, Tryz.ntmps39
  go_wp2_with fail
  rw [← HW.out]
  refine CH.mono ?_
  rintro e w1 ⟨rfl, hb1⟩
  have HB1 : Hid (Below w.heap.size w w1) := HB.out.trans (hb1.mono HB.out.size)
  have hc2' : w1.cell? ⟨w.heap.size, 2, none⟩ = some (.string p) := by rw [hb1.cell (p := ⟨w.heap.size, 2, none⟩) hlt]; exact hc2
  have hc3' : w1.cell? ⟨w.heap.size, 3, none⟩ = some (.slice a l.length cap) := by rw [hb1.cell (p := ⟨w.heap.size, 3, none⟩) hlt]; exact hc3
  have hlt1 : w.heap.size < w1.heap.size := Nat.lt_of_lt_of_le hlt hb1.size
  clear CH HW hb1 HB hc2 hc3 hlt
  have C2 := CP.out w1 HB1.out
  go_wp2_with fail
  refine C2.mono ?_
  rintro e w2 ⟨rfl, hb2⟩
  have HB2 : Hid (Below w.heap.size w w2) := HB1.out.trans (hb2.mono HB1.out.size)
  have hc3 : w2.cell? ⟨w.heap.size, 3, none⟩ = some (.slice a l.length cap) := by rw [hb2.cell (p := ⟨w.heap.size, 3, none⟩) hlt1]; exact hc3'
  have hlt2 : w.heap.size < w2.heap.size := Nat.lt_of_lt_of_le hlt1 hb2.size
  clear C2 CP hb2 HB1 hc2' hc3' hlt1
  have C3 := CF.out w2 HB2.out
  go_wp2_with fail
  refine C3.mono ?_
  rintro e w3 ⟨rfl, hb3⟩
  have HB3 : Hid (Below w.heap.size w w3) := HB2.out.trans (hb3.mono HB2.out.size)
  have hc3' : w3.cell? ⟨w.heap.size, 3, none⟩ = some (.slice a l.length cap) := by rw [hb3.cell (p := ⟨w.heap.size, 3, none⟩) hlt2]; exact hc3
  have hlt3 : w.heap.size < w3.heap.size := Nat.lt_of_lt_of_le hlt2 hb3.size
  clear C3 CF hb3 HB2 hc3 hlt2
  have C4 := headError_any E (headsC l) w3 (HE0.out _ HB3.out) HK
  by_cases c0 : headsC l = 0
  · rw [c0] at C4
    rw [errV0] at C4
    rw [c0]
    have CJ : Calls Tryz.prog 61 #[.slice a l.length cap, .string ⟨#[72, 111, 115, 116]⟩] w3 fun e w' => e = .returned (.agg #[.int .i64 (joinC l ⟨#[72, 111, 115, 116]⟩), .string (joinT l ⟨#[72, 111, 115, 116]⟩)]) ∧ Below w3.heap.size w3 w' := implJoin_any w3 a cap l ⟨#[72, 111, 115, 116]⟩ hl hcap (HS.out _ HB3.out) (HI.out _ HB3.out)
    obtain ⟨hj1, hj2⟩ := reqJoin c0
    have HJ : Hid (Calls Tryz.prog 61 #[.slice a l.length cap, .string ⟨#[72, 111, 115, 116]⟩] w3 fun e w' => e = .returned (.agg #[.int .i64 (joinC l ⟨#[72, 111, 115, 116]⟩), .string (joinT l ⟨#[72, 111, 115, 116]⟩)]) ∧ Below w3.heap.size w3 w') := CJ
    clear CJ
    generalize joinT l ⟨#[72, 111, 115, 116]⟩ = jt at *
    by_cases cv : valsOf hostN l = []
    · rw [hj2 cv] at HJ
      have HN := (headsC_zero c0).1
      clear hj1 hj2 HI HS HK
      by_cases cn : 20 ≤ l.length
      · have HE : Hid (errV E (reqC ⟨#[72, 69, 65, 68]⟩ h p l) = .iface 230 (.pointer (some E.m))) := by show _ = _; rw [HR.out, restC_many c0 cv cn]; rfl
        have cn' : (l.length : Int) = 20 := by omega
        have cb : ((l.length : Int) == 20) = true := by rw [cn']; rfl
        clear HR cv cn cn' c0
        generalize l.length = n at *
        go_wp2_with fail
        refine C4.mono ?_
        rintro e w4 ⟨rfl, hw⟩
        obtain rfl := hw.symm
        clear C4 hw
        go_wp2_with fail
        refine HJ.out.mono ?_
        rintro e w5 ⟨rfl, hb5⟩
        have hc5 : w5.cell? ⟨w.heap.size, 3, none⟩ = some (.slice a n cap) := by rw [hb5.cell (p := ⟨w.heap.size, 3, none⟩) hlt3]; exact hc3'
        have HB5 : Hid (Below w.heap.size w w5) := HB3.out.trans (hb5.mono HB3.out.size)
        have gM := (HE0.out _ HB5.out).gM
        clear hb5 HJ hc3' hlt3 HB3 HE0
        have hfc := f_field_code
        go_wp2_with fail
        go_ret
        exact ⟨congrArg Ending.returned HE.out.symm, HB5.out⟩
      · have HE : Hid (errV E (reqC ⟨#[72, 69, 65, 68]⟩ h p l) = .nilIface) := by show _ = _; rw [HR.out, restC_ok c0 cv cn]; rfl
        have cb : ((l.length : Int) == 20) = false := by rw [beq_eq_false_iff_ne]; omega
        clear HR cv cn c0 HE0
        generalize l.length = n at *
        go_wp2_with fail
        refine C4.mono ?_
        rintro e w4 ⟨rfl, hw⟩
        obtain rfl := hw.symm
        clear C4 hw
        go_wp2_with fail
        refine HJ.out.mono ?_
        rintro e w5 ⟨rfl, hb5⟩
        have hc5 : w5.cell? ⟨w.heap.size, 3, none⟩ = some (.slice a n cap) := by rw [hb5.cell (p := ⟨w.heap.size, 3, none⟩) hlt3]; exact hc3'
        have HB5 : Hid (Below w.heap.size w w5) := HB3.out.trans (hb5.mono HB3.out.size)
        clear hb5 HJ hc3' hlt3 HB3
        have hfc := f_field_code
        go_wp2_with fail
        go_ret
        exact ⟨congrArg Ending.returned HE.out.symm, HB5.out⟩
    · rw [hj1 cv] at HJ
      have HE : Hid (errV E (reqC ⟨#[72, 69, 65, 68]⟩ h p l) = .iface 230 (.pointer (some E.d))) := by show _ = _; rw [HR.out, restC_host c0 cv]; rfl
      clear hj1 hj2 HI HS HK HR cv c0
      generalize l.length = n at *
      go_wp2_with fail
      refine C4.mono ?_
      rintro e w4 ⟨rfl, hw⟩
      obtain rfl := hw.symm
      clear C4 hw
      go_wp2_with fail
      refine HJ.out.mono ?_
      rintro e w5 ⟨rfl, hb5⟩
      have HB5 : Hid (Below w.heap.size w w5) := HB3.out.trans (hb5.mono HB3.out.size)
      have gD := (HE0.out _ HB5.out).gD
      clear hb5 HJ hc3' hlt3 HB3 HE0
      have hfc := f_field_code
      go_wp2_with fail
      go_ret
      exact ⟨congrArg Ending.returned HE.out.symm, HB5.out⟩
  · have HE : Hid (errV E (reqC ⟨#[72, 69, 65, 68]⟩ h p l) = errV E (headsC l)) := by show _ = _; rw [HR.out, restC_heads c0]
    have hv : ∃ x, errV E (headsC l) = .iface 230 (.pointer (some x)) := by
      rcases HK with e | e | e
      · exact absurd e c0
      · rw [e]; exact ⟨_, rfl⟩
      · rw [e]; exact ⟨_, rfl⟩
    obtain ⟨x, hx⟩ := hv
    rw [hx] at C4 HE
    clear HR HI HS HK HE0 c0 hx
    generalize headsC l = c at *
    generalize l.length = n at *
    go_wp2_with fail
    refine C4.mono ?_
    rintro e w4 ⟨rfl, hw⟩
    obtain rfl := hw.symm
    clear C4 hw
    go_wp2_with fail
    go_ret
    exact ⟨congrArg Ending.returned HE.out.symm, HB3.out⟩
set_option maxHeartbeats 1000000 in
theorem implReqE_any (E : Errs) (w : World) (m h p : ByteArray) (a : Option Addr) (cap : Nat) (l : List Hdr) (hl : l.length ≤ 1048576) (hcap : l.length ≤ cap) (hps : p.size ≤ 1048576) (hset : SetIs w) (hE : ErrsIs w E) (hi : HdsIn w a l) :
    Calls Tryz.prog 39 #[.agg #[.string m, .string h, .string p, .slice a l.length cap]] w fun e w' => e = .returned (errV E (reqC m h p l)) ∧ Below w.heap.size w w' := by
  by_cases c1 : m = ⟨#[71, 69, 84]⟩
  · subst c1; exact implReq_get E w h p a cap l hl hcap hps hset hE hi
  by_cases c2 : m = ⟨#[72, 69, 65, 68]⟩
  · subst c2; exact implReq_head E w h p a cap l hl hcap hps hset hE hi
  have HE : Hid (errV E (reqC m h p l) = .iface 230 (.pointer (some E.u))) := by
    show _ = _
    rw [reqC_bad (by
      have : methS m = false := by simp only [methS, getT, headT, c1, c2, decide_false]; rfl
      simp [lineS, this])]
    rfl
  have d1 : (m.toList == [71, 69, 84]) = false := lit_ne c1
  have d2 : (m.toList == [72, 69, 65, 68]) = false := lit_ne c2
  clear c1 c2
  have HB : Hid (Below w.heap.size w (w.alloc (.cells #[.string m, .string h, .string p, .slice a l.length cap] 26))) := (Below.refl _ _).alloc (Nat.le_refl _) _
  have gU := (hE.below HB.out).gU
  clear hi hset hE
  generalize l.length = n at *
  go_enter Tryz.func39, Tryz.ntmps39
  go_wp2_with fail
  go_ret
  exact ⟨congrArg Ending.returned HE.out.symm, HB.out⟩
set_option maxHeartbeats 1000000 in
theorem implReq_any (E : Errs) (w : World) (m h p : ByteArray) (a : Option Addr) (cap : Nat) (l : List Hdr) (hl : l.length ≤ 1048576) (hcap : l.length ≤ cap) (hps : p.size ≤ 1048576) (hset : SetIs w) (hE : ErrsIs w E) (hi : HdsIn w a l) :
    Calls Tryz.prog 12 #[.agg #[.string m, .string h, .string p, .slice a l.length cap]] w fun e w' => e = .returned (.int .i64 (reqC m h p l)) ∧ Below w.heap.size w w' := by
  have bW : Below w.heap.size w (w.alloc (.cells #[.string m, .string h, .string p, .slice a l.length cap] 26)) := (Below.refl _ _).alloc (Nat.le_refl _) _
  have C1 := implReqE_any E _ m h p a cap l hl hcap hps (hset.below bW) (hE.below bW) (hi.keep bW)
  have HK := reqC_codes m h p l
  have C2 : Hid (∀ X, ErrsIs X E → Calls Tryz.prog 38 #[errV E (reqC m h p l)] X fun e w' => e = .returned (.int .i64 (reqC m h p l)) ∧ w' = X) := fun X hX => codeOf_any E _ X hX (by omega)
  have HE0 : Hid (∀ X, Below w.heap.size w X → ErrsIs X E) := fun X hb => hE.below hb
  have HB : Hid (Below w.heap.size w (w.alloc (.cells #[.string m, .string h, .string p, .slice a l.length cap] 26))) := bW
  clear hi hset hE HK bW
  generalize reqC m h p l = c at *
  generalize l.length = n at *
  generalize errV E c = ev at *
  go_enter Tryz.func12, Tryz.ntmps12
  go_wp2_with fail
  refine C1.mono ?_
  rintro e w1 ⟨rfl, hb1⟩
  have HB1 : Hid (Below w.heap.size w w1) := HB.out.trans (hb1.mono HB.out.size)
  have C3 := C2.out w1 (HE0.out _ HB1.out)
  clear hb1 HB C1 C2 HE0
  go_wp2_with fail
  refine C3.mono ?_
  rintro e w2 ⟨rfl, hw⟩
  obtain rfl := hw.symm
  clear hw C3
  go_wp2_with fail
  go_ret
  exact ⟨rfl, HB1.out⟩
end Go.Proofs.YtonnggelpjjmmaaGreatDoor
/-
  Rows of bytes: the laws' own helpers over them.
-/
namespace Go.Proofs.YtonnggelpjjmmaaGreatDoor
open Go.ChangeShapes Go.WideShapes Go.ChangeAt Go.RowKit Go.Sort
def BAt (w : World) (b off : Nat) (l : List UInt8) : Prop := ∀ (i : Nat) c, l[i]? = some c → w.cell? ⟨b, off + i, none⟩ = some (.int .u8 (c.toNat : Int))
theorem BAt.keep {w w' : World} {b off : Nat} {l : List UInt8} (h : BAt w b off l) (hb : Below w.heap.size w w') : BAt w' b off l := by
  intro i c hc
  have := h i c hc
  rw [hb.cell (block_lt_of_cell this)]; exact this
def BIn (w : World) (a : Option Addr) (l : List UInt8) : Prop := l = [] ∨ ∃ b off, a = some ⟨b, off, none⟩ ∧ BAt w b off l
theorem BIn.keep {w w' : World} {a : Option Addr} {l : List UInt8} (h : BIn w a l) (hb : Below w.heap.size w w') : BIn w' a l := by
  rcases h with h | ⟨b, off, e, h⟩
  · exact .inl h
  · exact .inr ⟨b, off, e, h.keep hb⟩
structure BMine (W : World) (B : Nat) (l : List UInt8) : Prop where
  at0 : BAt W B 0 l
  free : ∀ o, o < l.length → W.frozen? ⟨B, o, none⟩ = false
  lt : B < W.heap.size
theorem BMine.keep {W W' : World} {B : Nat} {l : List UInt8} (h : BMine W B l) (hb : Below W.heap.size W W') : BMine W' B l :=
  ⟨h.at0.keep hb, fun o ho => by rw [hb.frozen (p := ⟨B, o, none⟩) h.lt]; exact h.free o ho, Nat.lt_of_lt_of_le h.lt hb.size⟩
theorem BMine.in {W : World} {B : Nat} {l : List UInt8} (h : BMine W B l) : BIn W (some ⟨B, 0, none⟩) l := .inr ⟨B, 0, rfl, h.at0⟩
theorem infoByteR : (Tryz.prog.info? 5).map (fun i => (i.zero, i.size, i.bytes)) = some (some (.int .u8 0), 1, 1) := by kernel_rfl
theorem BAt.put {w : World} {G : Nat} {l : List UInt8} {k n : Nat} {c : UInt8} (h : BAt w G 0 (l.take k)) (hr : l[k]? = some c) (hm : HRoom w G n) (hk : k < n) : BAt (w.setCell ⟨G, k, none⟩ (.int .u8 (c.toNat : Int))) G 0 (l.take (k + 1)) := by
  intro i q hq
  have hi : i < k + 1 := by
    have := (List.getElem?_eq_some_iff.1 hq).1
    simp at this; omega
  rw [List.getElem?_take_of_lt hi] at hq
  simp only [Nat.zero_add]
  by_cases e : i = k
  · subst e
    rw [hr] at hq
    obtain rfl := Option.some.inj hq
    obtain ⟨⟨u0, g0⟩, _⟩ := hm i (by omega)
    exact World.cell?_setCell_same _ _ _ g0
  · have hq2 : (l.take k)[i]? = some q := by rw [List.getElem?_take_of_lt (by omega)]; exact hq
    have a1 := h i q hq2
    simp only [Nat.zero_add] at a1
    rw [World.cell?_setCell_other _ _ _ _ (hoff_ne (by omega))]; exact a1
end Go.Proofs.YtonnggelpjjmmaaGreatDoor
/-
  Results that hold bytes: owned, compared, marked, held.
-/
namespace Go.Proofs.YtonnggelpjjmmaaGreatDoor
open Go.ChangeShapes Go.WideShapes Go.ChangeAt Go.RowKit
structure Two (W : World) (B : Nat) (v0 v1 : Value) : Prop where
  c0 : W.cell? ⟨B, 0, none⟩ = some v0
  c1 : W.cell? ⟨B, 1, none⟩ = some v1
  fr : ∀ o, W.frozen? ⟨B, o, none⟩ = false
  lt : B < W.heap.size
theorem Two.keep {W W' : World} {B : Nat} {v0 v1 : Value} (h : Two W B v0 v1) (hb : Below W.heap.size W W') : Two W' B v0 v1 :=
  ⟨by rw [hb.cell (p := ⟨B, 0, none⟩) h.lt]; exact h.c0, by rw [hb.cell (p := ⟨B, 1, none⟩) h.lt]; exact h.c1, fun o => by rw [hb.frozen (p := ⟨B, o, none⟩) h.lt]; exact h.fr o, Nat.lt_of_lt_of_le h.lt hb.size⟩
theorem Two.new (W : World) (v0 v1 : Value) (t : TypeId) : Two (W.alloc (.cells #[v0, v1] t)) W.heap.size v0 v1 :=
  ⟨by rw [World.cell?_alloc_mark]; rfl, by rw [World.cell?_alloc_mark]; rfl, fun o => by have e := heap_alloc_new W (.cells #[v0, v1] t); unfold World.frozen?; rw [e]; simp, by simp⟩
/-- v holds the bytes l in a row of its own, from block base on; or it is nil and there are none. -/
def BOwn (w : World) (base : Nat) (v : Value) (l : List UInt8) : Prop := (v = .slice none 0 0 ∧ l = []) ∨ ∃ g k, v = .slice (some ⟨g, 0, none⟩) l.length k ∧ base ≤ g ∧ BMine w g l
theorem BOwn.keep {w w' : World} {base : Nat} {v : Value} {l : List UInt8} (h : BOwn w base v l) (hb : Below w.heap.size w w') : BOwn w' base v l := by
  rcases h with h | ⟨g, k, e, hg, hm⟩
  · exact .inl h
  · exact .inr ⟨g, k, e, hg, hm.keep hb⟩
theorem BOwn.lower {w : World} {b0 base : Nat} {v : Value} {l : List UInt8} (h : BOwn w base v l) (hb : b0 ≤ base) : BOwn w b0 v l := by
  rcases h with h | ⟨g, k, e, hg, hm⟩
  · exact .inl h
  · exact .inr ⟨g, k, e, Nat.le_trans hb hg, hm⟩
theorem BOwn.shape {w : World} {base : Nat} {v : Value} {l : List UInt8} (h : BOwn w base v l) : ∃ a k, v = .slice a l.length k ∧ BIn w a l := by
  rcases h with ⟨rfl, rfl⟩ | ⟨g, k, rfl, hg, hm⟩
  · exact ⟨none, 0, rfl, .inl rfl⟩
  · exact ⟨_, _, rfl, hm.in⟩
theorem BOwn.block {w : World} {base : Nat} {v : Value} {l : List UInt8} (h : BOwn w base v l) : ∀ b, v.ownBlock = some b → base ≤ b ∧ b < w.heap.size := by
  rcases h with ⟨rfl, _⟩ | ⟨g, k, rfl, hg, hm⟩
  · intro b hb; cases hb
  · intro b hb; simp only [Value.ownBlock, Option.some.injEq] at hb; subst hb; exact ⟨hg, hm.lt⟩
/-- What a call hands back: a code, and bytes of its own. -/
def BGot (c : Int) (l : List UInt8) (base : Nat) (e : Ending) (w : World) : Prop := ∃ a n k, e = .returned (.agg #[.int .i64 c, .slice a n k]) ∧ BOwn w base (.slice a n k) l
theorem BGot.nil (c : Int) (base : Nat) (w : World) : BGot c [] base (.returned (.agg #[.int .i64 c, .slice none 0 0])) w := ⟨none, 0, 0, rfl, .inl ⟨rfl, rfl⟩⟩
/-- A text turned into bytes. -/
theorem bytes_of_text (w : World) (s : ByteArray) : ∃ C cap, (convert 9 22 (.string s)).run Tryz.prog w = .ok (.slice (some ⟨w.heap.size, 0, none⟩) s.size cap) (w.drew.alloc (.cells C 5 (C.size, C.size + 1))) ∧ BMine (w.drew.alloc (.cells C 5 (C.size, C.size + 1))) w.heap.size s.data.toList := by
  have h1 := run_bytes_of_string (P := Tryz.prog) w 9 22 5 s Tryz.underlying9 Tryz.underlying22 Tryz.underlying5
  have h2 := fun cap => BRow.made w s cap _ rfl
  refine ⟨_, _, h1, ?_⟩
  have h3 := h2 (grownCap w s.size 0 5)
  refine ⟨fun i c hc => ?_, fun o ho => ?_, ?_⟩
  · obtain ⟨hi, rfl⟩ := List.getElem?_eq_some_iff.1 hc
    rw [Nat.zero_add]
    exact h3.cell i hi
  · exact h3.free o ho
  · show w.heap.size < (w.drew.heap.push _).size
    rw [Array.size_push]; exact Nat.lt_succ_self _
end Go.Proofs.YtonnggelpjjmmaaGreatDoor
/-
  What PackRequest and its model answer.
-/
namespace Go.Proofs.YtonnggelpjjmmaaGreatDoor
open Go.ChangeShapes Go.WideShapes Go.ChangeAt Go.RowKit
theorem two_put {w : World} {B : Nat} {u0 u1 v0 v1 : Value} (h : Two w B u0 u1) : Two ((w.setCell ⟨B, 0, none⟩ v0).setCell ⟨B, 1, none⟩ v1) B v0 v1 :=
  ⟨(two_set h.c0 h.c1).1, (two_set h.c0 h.c1).2, fun o => by rw [World.frozen?_setCell, World.frozen?_setCell]; exact h.fr o, by simpa using h.lt⟩
theorem BMine.put {w : World} {B g : Nat} {l : List UInt8} (h : BMine w g l) (v0 v1 : Value) (hne : B ≠ g) : BMine ((w.setCell ⟨B, 0, none⟩ v0).setCell ⟨B, 1, none⟩ v1) g l := by
  have ne : ∀ i o : Nat, (⟨B, i, none⟩ : Addr) ≠ ⟨g, o, none⟩ := fun i o e => hne (congrArg Addr.block e)
  refine ⟨fun i c hc => ?_, fun o ho => by rw [World.frozen?_setCell, World.frozen?_setCell]; exact h.free o ho, by simpa using h.lt⟩
  rw [World.cell?_setCell_other _ _ _ _ (ne _ _), World.cell?_setCell_other _ _ _ _ (ne _ _)]
  exact h.at0 i c hc
theorem method_size {m h p : ByteArray} (c : lineS m h p = true) : m.size ≤ 4 ∧ h.size ≤ 60 ∧ p.size ≤ 100 := by
  obtain ⟨h1, h2, h3⟩ := lineS_true c
  refine ⟨?_, (hostS_true h2).2.1, ?_⟩
  · simp only [methS, Bool.or_eq_true, decide_eq_true_eq] at h1
    rcases h1 with rfl | rfl <;> decide
  · simp only [pathS, Bool.and_eq_true, decide_eq_true_eq] at h3
    exact h3.1.2
def reqText (m h p : ByteArray) (t : ByteArray) : ByteArray := m ++ ⟨#[32]⟩ ++ p ++ ⟨#[32, 72, 84, 84, 80, 47, 49, 46, 49, 13, 10, 72, 111, 115, 116, 58, 32]⟩ ++ h ++ ⟨#[13, 10]⟩ ++ t ++ ⟨#[13, 10]⟩
theorem reqText_list (m h p : ByteArray) (l : List Hdr) : (reqText m h p ⟨(packL l).toArray⟩).data.toList = reqL m h p l := by
  simp only [reqText, reqL, packL_cons, lineL, hostT, verL, happ_list]
  simp
set_option maxRecDepth 100000 in
set_option maxHeartbeats 8000000 in
theorem specPackReq_any (w : World) (m h p : ByteArray) (a : Option Addr) (cap : Nat) (l : List Hdr) (hl : l.length ≤ 1048576) (hi : HdsIn w a l) :
    Calls Tryz.prog 47 #[.agg #[.string m, .string h, .string p, .slice a l.length cap]] w fun e w' => BGot (reqC m h p l) (reqB m h p l) w.heap.size e w' ∧ Below w.heap.size w w' := by
  obtain ⟨W, hW⟩ : ∃ W, W = (w.alloc (.cells #[.string m, .string h, .string p, .slice a l.length cap] 26)).alloc (.cells #[.int .i64 0, .slice none 0 0] 29) := ⟨_, rfl⟩
  have HW : Hid (W = (w.alloc (.cells #[.string m, .string h, .string p, .slice a l.length cap] 26)).alloc (.cells #[.int .i64 0, .slice none 0 0] 29)) := hW
  have bW : Below w.heap.size w W := by rw [hW]; exact ((Below.refl _ _).alloc (Nat.le_refl _) _).alloc (by simp) _
  have f0 : Four W w.heap.size (.string m) (.string h) (.string p) (.slice a l.length cap) := by rw [hW]; exact (Four.new _ _ _ _ _ _).keep ((Below.refl _ _).alloc (Nat.le_refl _) _)
  have t0 : Two W (w.heap.size + 1) (.int .i64 0) (.slice none 0 0) := by
    rw [hW]
    have := Two.new (w.alloc (.cells #[.string m, .string h, .string p, .slice a l.length cap] 26)) (.int .i64 0) (.slice none 0 0) 29
    simpa using this
  have C := specReq_any W m h p a cap l hl (hi.keep bW)
  have K0 : Hid (Below w.heap.size w W ∧ Four W w.heap.size (.string m) (.string h) (.string p) (.slice a l.length cap) ∧ Two W (w.heap.size + 1) (.int .i64 0) (.slice none 0 0)) := ⟨bW, f0, t0⟩
  have HI : Hid (∀ X, Below w.heap.size w X → HdsIn X a l) := fun X hb => hi.keep hb
  clear hW bW f0 t0 hi
  have hc3 := K0.out.2.1.c3
  rw [HW.out] at hc3
  go_enter Tryz.func47, Tryz.ntmps47
  go_wp2_with fail
  rw [← HW.out]
  refine C.mono ?_
  rintro e w1 ⟨rfl, hb1⟩
  have K1 : Hid (Below w.heap.size w w1 ∧ Four w1 w.heap.size (.string m) (.string h) (.string p) (.slice a l.length cap) ∧ Two w1 (w.heap.size + 1) (.int .i64 0) (.slice none 0 0)) := ⟨K0.out.1.trans (hb1.mono K0.out.1.size), K0.out.2.1.keep hb1, K0.out.2.2.keep hb1⟩
  clear C hb1 K0 HW hc3
  by_cases c0 : reqC m h p l = 0
  · have HB0 : Hid (reqB m h p l = reqL m h p l) := by show _ = _; rw [reqB, if_pos c0]
    obtain ⟨y1, y2, y3, y4⟩ := reqC_zero c0
    obtain ⟨z1, z2, z3⟩ := method_size y1
    obtain ⟨s1, s2⟩ := heads_sizes y2
    have HP : Hid (∀ X, Below w.heap.size w X → Calls Tryz.prog 89 #[.slice a l.length cap] X fun e w' => e = .returned (.string ⟨(packL l).toArray⟩) ∧ Below X.heap.size X w') := fun X hb => l4Pack_any X a cap l (by omega) (fun i r hr => by have := s2 i r hr; omega) (HI.out X hb)
    have hpl := packL_len y2
    obtain ⟨t, ht⟩ : ∃ t : ByteArray, t = ⟨(packL l).toArray⟩ := ⟨_, rfl⟩
    have hts : t.size ≤ 6000 := by rw [ht]; show (packL l).toArray.size ≤ 6000; rw [List.size_toArray]; omega
    have HT : Hid ((reqText m h p t).data.toList = reqL m h p l) := by show _ = _; rw [ht]; exact reqText_list m h p l
    rw [← ht] at HP
    have HTX : Hid (reqText m h p t = m ++ ⟨#[32]⟩ ++ p ++ ⟨#[32, 72, 84, 84, 80, 47, 49, 46, 49, 13, 10, 72, 111, 115, 116, 58, 32]⟩ ++ h ++ ⟨#[13, 10]⟩ ++ t ++ ⟨#[13, 10]⟩) := rfl
    rw [c0]
    have HC0 : Hid (reqC m h p l = 0) := c0
    clear ht y1 y2 y3 y4 s1 s2 hpl c0 HI
    generalize l.length = n at *
    have BW : Hid (Below w1.heap.size w1 w1.drew) := (Below.refl _ _).drew
    have HKS : Hid (∀ X, Below w1.heap.size w1 X → X.cell? ⟨w.heap.size, 0, none⟩ = some (.string m) ∧ X.cell? ⟨w.heap.size, 1, none⟩ = some (.string h) ∧ X.cell? ⟨w.heap.size, 2, none⟩ = some (.string p) ∧ X.cell? ⟨w.heap.size, 3, none⟩ = some (.slice a n cap)) := fun X hb => ⟨(K1.out.2.1.keep hb).c0, (K1.out.2.1.keep hb).c1, (K1.out.2.1.keep hb).c2, (K1.out.2.1.keep hb).c3⟩
    have HST : Hid (∀ (X : World) v0 v1, Below w1.heap.size w1 X → (fun X : World => X.cell? ⟨w.heap.size, 0, none⟩ = some (.string m) ∧ X.cell? ⟨w.heap.size, 1, none⟩ = some (.string h) ∧ X.cell? ⟨w.heap.size, 2, none⟩ = some (.string p) ∧ X.cell? ⟨w.heap.size, 3, none⟩ = some (.slice a n cap)) ((X.setCell ⟨w.heap.size + 1, 0, none⟩ v0).setCell ⟨w.heap.size + 1, 1, none⟩ v1)) := fun X v0 v1 hb => by
      have ne : ∀ i o : Nat, (⟨w.heap.size + 1, i, none⟩ : Addr) ≠ ⟨w.heap.size, o, none⟩ := fun i o e => by have := congrArg Addr.block e; simp only at this; omega
      have kk : ∀ o, ((X.setCell ⟨w.heap.size + 1, 0, none⟩ v0).setCell ⟨w.heap.size + 1, 1, none⟩ v1).cell? ⟨w.heap.size, o, none⟩ = X.cell? ⟨w.heap.size, o, none⟩ := fun o => by rw [World.cell?_setCell_other _ _ _ _ (ne _ _), World.cell?_setCell_other _ _ _ _ (ne _ _)]
      simp only [kk]
      exact ⟨(K1.out.2.1.keep hb).c0, (K1.out.2.1.keep hb).c1, (K1.out.2.1.keep hb).c2, (K1.out.2.1.keep hb).c3⟩
    obtain ⟨x1, hx1⟩ : ∃ x : ByteArray, x = m ++ ⟨#[32]⟩ := ⟨_, rfl⟩
    have sx1 : x1.size = (m).size + (⟨#[32]⟩ : ByteArray).size := by rw [hx1, ByteArray.size_append]
    obtain ⟨x2, hx2⟩ : ∃ x : ByteArray, x = x1 ++ p := ⟨_, rfl⟩
    have sx2 : x2.size = (x1).size + (p : ByteArray).size := by rw [hx2, ByteArray.size_append]
    obtain ⟨x3, hx3⟩ : ∃ x : ByteArray, x = x2 ++ ⟨#[32, 72, 84, 84, 80, 47, 49, 46, 49, 13, 10, 72, 111, 115, 116, 58, 32]⟩ := ⟨_, rfl⟩
    have sx3 : x3.size = (x2).size + (⟨#[32, 72, 84, 84, 80, 47, 49, 46, 49, 13, 10, 72, 111, 115, 116, 58, 32]⟩ : ByteArray).size := by rw [hx3, ByteArray.size_append]
    obtain ⟨x4, hx4⟩ : ∃ x : ByteArray, x = x3 ++ h := ⟨_, rfl⟩
    have sx4 : x4.size = (x3).size + (h : ByteArray).size := by rw [hx4, ByteArray.size_append]
    obtain ⟨x5, hx5⟩ : ∃ x : ByteArray, x = x4 ++ ⟨#[13, 10]⟩ := ⟨_, rfl⟩
    have sx5 : x5.size = (x4).size + (⟨#[13, 10]⟩ : ByteArray).size := by rw [hx5, ByteArray.size_append]
    obtain ⟨x6, hx6⟩ : ∃ x : ByteArray, x = x5 ++ t := ⟨_, rfl⟩
    have sx6 : x6.size = (x5).size + (t : ByteArray).size := by rw [hx6, ByteArray.size_append]
    obtain ⟨x7, hx7⟩ : ∃ x : ByteArray, x = x6 ++ ⟨#[13, 10]⟩ := ⟨_, rfl⟩
    have sx7 : x7.size = (x6).size + (⟨#[13, 10]⟩ : ByteArray).size := by rw [hx7, ByteArray.size_append]
    have lit1 : (⟨#[32]⟩ : ByteArray).size = 1 := rfl
    have lit2 : (⟨#[13, 10]⟩ : ByteArray).size = 2 := rfl
    have lit3 : (⟨#[32, 72, 84, 84, 80, 47, 49, 46, 49, 13, 10, 72, 111, 115, 116, 58, 32]⟩ : ByteArray).size = 17 := rfl
    have add1 : ∀ X, (Op.stringOp .add m ⟨#[32]⟩).run Tryz.prog X = .ok (.string x1) X := fun X => by rw [hx1]; exact run_string_add_sum X _ _ (by omega)
    have add2 : ∀ X, (Op.stringOp .add x1 p).run Tryz.prog X = .ok (.string x2) X := fun X => by rw [hx2]; exact run_string_add_sum X _ _ (by omega)
    have add3 : ∀ X, (Op.stringOp .add x2 ⟨#[32, 72, 84, 84, 80, 47, 49, 46, 49, 13, 10, 72, 111, 115, 116, 58, 32]⟩).run Tryz.prog X = .ok (.string x3) X := fun X => by rw [hx3]; exact run_string_add_sum X _ _ (by omega)
    have add4 : ∀ X, (Op.stringOp .add x3 h).run Tryz.prog X = .ok (.string x4) X := fun X => by rw [hx4]; exact run_string_add_sum X _ _ (by omega)
    have add5 : ∀ X, (Op.stringOp .add x4 ⟨#[13, 10]⟩).run Tryz.prog X = .ok (.string x5) X := fun X => by rw [hx5]; exact run_string_add_sum X _ _ (by omega)
    have add6 : ∀ X, (Op.stringOp .add x5 t).run Tryz.prog X = .ok (.string x6) X := fun X => by rw [hx6]; exact run_string_add_sum X _ _ (by omega)
    have add7 : ∀ X, (Op.stringOp .add x6 ⟨#[13, 10]⟩).run Tryz.prog X = .ok (.string x7) X := fun X => by rw [hx7]; exact run_string_add_sum X _ _ (by omega)
    have HX7 : Hid (x7 = reqText m h p t) := by show _ = _; rw [hx7, hx6, hx5, hx4, hx3, hx2, hx1]; rfl
    clear hx1 hx2 hx3 hx4 hx5 hx6 hx7 HTX lit1 lit2 lit3
    clear sx1 sx2 sx3 sx4 sx5 sx6 sx7 z1 z2 z3 hts
    go_wp2_with fail
    go_region_held (fun X => X.cell? ⟨w.heap.size, 0, none⟩ = some (.string m) ∧ X.cell? ⟨w.heap.size, 1, none⟩ = some (.string h) ∧ X.cell? ⟨w.heap.size, 2, none⟩ = some (.string p) ∧ X.cell? ⟨w.heap.size, 3, none⟩ = some (.slice a n cap))
      (first | exact HST.out _ _ _ BX.out | exact HKS.out _ BX.out | exact HKS.out _ BA.out | exact HKS.out _ BW.out)
      (first
      | (go_at_call 89; refine (HP.out _ (K1.out.1.trans (BW.out.mono K1.out.1.size))).mono ?_; rintro e wa ⟨rfl, hba⟩; have BA : Hid (Below w1.heap.size w1 wa) := BW.out.trans (hba.mono BW.out.size); clear hba; obtain ⟨C, kc, hcv, hbm⟩ := bytes_of_text wa x7; obtain ⟨X, hX⟩ : ∃ X, X = wa.drew.alloc (.cells C 5 (C.size, C.size + 1)) := ⟨_, rfl⟩; have HX : Hid (Below wa.heap.size wa X) := (by rw [hX]; exact ((Below.refl _ _).drew).alloc (Nat.le_refl _) _); rw [← hX] at hcv hbm; have HM : Hid (BMine X wa.heap.size x7.data.toList) := hbm; clear hbm hX; have BX : Hid (Below w1.heap.size w1 X) := BA.out.trans (HX.out.mono BA.out.size); obtain ⟨r0, r1, rf, _⟩ := K1.out.2.2.keep BX.out; have rf0 := rf 0; have rf1 := rf 1; clear rf))
    all_goals
      (go_wp2_with fail
       have T2 := two_put (v0 := .int .i64 0) (v1 := .slice (some ⟨wa.heap.size, 0, none⟩) x7.size kc) (K1.out.2.2.keep BX.out)
       have hw1 : w.heap.size + 1 < w1.heap.size := K1.out.2.2.lt
       have bx0 := K1.out.1.trans (BX.out.mono K1.out.1.size)
       have e7 : reqL m h p l = x7.data.toList := by rw [HX7.out]; exact HT.out.symm
       refine bodyPost_ret (v := .agg #[.int .i64 0, .slice (some ⟨wa.heap.size, 0, none⟩) x7.size kc]) (by simp [results, Tryz.results47, go_sem, T2.c0, T2.c1]) rfl ⟨⟨_, _, _, (by rw [HC0.out]), .inr ⟨wa.heap.size, kc, ?_, ?_, ?_⟩⟩, (bx0.setCell (by simp) _).setCell (by simp) _⟩
       · rw [HB0.out, e7]; congr 1
       · exact Nat.le_trans K1.out.1.size BA.out.size
       · rw [HB0.out, e7]
         exact HM.out.put _ _ (by have := BA.out.size; omega))
  · have HB0 : Hid (reqB m h p l = []) := by show _ = _; rw [reqB, if_neg c0]
    have HF : Hid (∀ e w', e = .returned (.agg #[.int .i64 (reqC m h p l), .slice none 0 0]) → BGot (reqC m h p l) (reqB m h p l) w.heap.size e w') := fun e w' he => by subst he; rw [HB0.out]; exact BGot.nil _ _ _
    obtain ⟨t0, t1, tf, _⟩ := K1.out.2.2
    have tf0 := tf 0
    have tf1 := tf 1
    have HB1 : Hid (Below w.heap.size w w1) := K1.out.1
    have T2 : Hid (Two ((w1.setCell ⟨w.heap.size + 1, 0, none⟩ (.int .i64 (reqC m h p l))).setCell ⟨w.heap.size + 1, 1, none⟩ (.slice none 0 0)) (w.heap.size + 1) (.int .i64 (reqC m h p l)) (.slice none 0 0)) := two_put K1.out.2.2
    clear K1 HI HB0 tf
    obtain ⟨c, hcc⟩ : ∃ c, reqC m h p l = c := ⟨_, rfl⟩
    obtain ⟨bb, hbb⟩ : ∃ bb, reqB m h p l = bb := ⟨_, rfl⟩
    have HCC : Hid (reqC m h p l = c ∧ reqB m h p l = bb) := ⟨hcc, hbb⟩
    rw [hcc] at HF T2 c0 ⊢
    rw [hbb] at HF
    clear hcc hbb
    generalize l.length = n at *
    go_wp2_with fail
    exact bodyPost_ret (v := .agg #[.int .i64 c, .slice none 0 0]) (by simp [results, Tryz.results47, go_sem, T2.out.c0, T2.out.c1]) rfl ⟨by rw [HCC.out.1, HCC.out.2]; exact HF.out _ _ rfl, (HB1.out.setCell (by simp) _).setCell (by simp) _⟩
end Go.Proofs.YtonnggelpjjmmaaGreatDoor
/-
  What PackRequest answers.
-/
namespace Go.Proofs.YtonnggelpjjmmaaGreatDoor
open Go.ChangeShapes Go.WideShapes Go.ChangeAt Go.RowKit
theorem hdrsW_cells {w : World} {b off : Nat} {l : List Hdr} (h : HeadsAt w b off l) : ∀ j u, (hdrsW l)[j]? = some u → w.cell? ((⟨b, off, none⟩ : Addr).add j) = some u := by
  intro j u hj
  have hadd : (⟨b, off, none⟩ : Addr).add j = ⟨b, off + j, none⟩ := by unfold Addr.add; split <;> simp_all
  rw [hadd]
  have hlt : j < (hdrsW l).length := (List.getElem?_eq_some_iff.1 hj).1
  rw [hdrsW_len] at hlt
  obtain ⟨r, hr⟩ : ∃ r, l[j / 2]? = some r := ⟨l[j / 2]'(by omega), List.getElem?_eq_getElem _⟩
  obtain ⟨e0, e1⟩ := hdrsW_at l (j / 2) r hr
  obtain ⟨c0, c1⟩ := h (j / 2) r hr
  rcases Nat.mod_two_eq_zero_or_one j with hm | hm
  · have ej : j / 2 * 2 = j := by omega
    rw [ej] at e0 c0
    rw [e0] at hj
    rw [← hj]; exact c0
  · have ej : j / 2 * 2 + 1 = j := by omega
    rw [ej] at e1
    rw [Nat.add_assoc, ej] at c1
    rw [e1] at hj
    rw [← hj]; exact c1
theorem Four.keepB {W W' : World} {B base : Nat} {v0 v1 v2 v3 : Value} (h : Four W B v0 v1 v2 v3) (hB : B < base) (hb : Below base W W') : Four W' B v0 v1 v2 v3 :=
  ⟨by rw [hb.cell (p := ⟨B, 0, none⟩) hB]; exact h.c0, by rw [hb.cell (p := ⟨B, 1, none⟩) hB]; exact h.c1, by rw [hb.cell (p := ⟨B, 2, none⟩) hB]; exact h.c2, by rw [hb.cell (p := ⟨B, 3, none⟩) hB]; exact h.c3,
    fun o => by rw [hb.frozen (p := ⟨B, o, none⟩) hB]; exact h.fr o, Nat.lt_of_lt_of_le h.lt hb.size⟩
theorem Two.keepB {W W' : World} {B base : Nat} {v0 v1 : Value} (h : Two W B v0 v1) (hB : B < base) (hb : Below base W W') : Two W' B v0 v1 :=
  ⟨by rw [hb.cell (p := ⟨B, 0, none⟩) hB]; exact h.c0, by rw [hb.cell (p := ⟨B, 1, none⟩) hB]; exact h.c1, fun o => by rw [hb.frozen (p := ⟨B, o, none⟩) hB]; exact h.fr o, Nat.lt_of_lt_of_le h.lt hb.size⟩
theorem hdrsW_one (l : List Hdr) : ∀ u ∈ hdrsW l, u.oneCell' = true := by
  intro u hu
  simp only [hdrsW, List.mem_flatMap] at hu
  obtain ⟨r, _, hr⟩ := hu
  simp only [hdrW, List.mem_cons, List.not_mem_nil, or_false] at hr
  rcases hr with rfl | rfl <;> rfl
theorem wpList_append_hdrs {ops : Array Oper} {rest : List Oper} {o : Oper} {a : Act} {Q : Exit → Act → World → Prop} (w : World) (hgd : o.guard = none) (s x : Operand)
    (ho : o.op = .call { callee := .builtin .append, args := #[s, x], argTypes := #[24, 24] }) (base : Nat) (v : Value) (l0 : List Hdr) (b off cap : Nat) (l : List Hdr)
    (hs : a.eval s = v) (hx : a.eval x = .slice (some ⟨b, off, none⟩) l.length cap) (hown : OwnH w base v l0) (hat : HeadsAt w b off l) (hl : l0.length + l.length ≤ 1000000) (hbase : base ≤ w.heap.size)
    (h : ∀ v' w', OwnH w' base v' (l0 ++ l) → Below base w w' → w.heap.size ≤ w'.heap.size → wpList Tryz.prog ops Q rest (a.put o.dst v') w') :
    wpList Tryz.prog ops Q (o :: rest) a w := by
  obtain ⟨i0, hi, hz0, hz1, hz2⟩ := info_parts infoHeader
  refine wpList_append_own _ hgd s x 24 ho base 58 i0 (.agg #[.string ⟨#[]⟩, .string ⟨#[]⟩]) 2 32 Tryz.underlying24 hi hz0 hz1 hz2 rfl (by decide) v l0.length (hdrsW l0) hs hown ⟨b, off, none⟩ l.length cap (hdrsW l) hx (hdrsW_len l) (hdrsW_cells hat) (hdrsW_one l) ?_ ?_ hbase ?_
  · unfold maxLen; omega
  · omega
  · intro v' w' h1 h2 h3
    have e : hdrsW (l0 ++ l) = hdrsW l0 ++ hdrsW l := by simp [hdrsW]
    refine h v' w' (by unfold OwnH; rw [e, List.length_append]; exact h1) ?_ ?_
    · exact (Below.refl base w).grown h2 hbase (fun q hq => own_geH hown q hq)
    · exact ((Below.refl 0 w).grown h2 (Nat.zero_le _) (fun q _ => Nat.zero_le _)).size
theorem OwnH.one (w : World) (n z : ByteArray) : OwnH (w.alloc (.cells #[.string n, .string z] 58)) w.heap.size (.slice (some ⟨w.heap.size, 0, none⟩) 1 1) [⟨n, z⟩] :=
  ⟨rfl, .inr ⟨w.heap.size, 1, #[.string n, .string z], rfl, Nat.le_refl _, heap_alloc_new _ _, by simp, by unfold maxLen; omega, by simp, by simp [hdrsW, hdrW]⟩⟩
set_option maxRecDepth 100000 in
set_option maxHeartbeats 8000000 in
theorem implPackReq_at (E : Errs) (w : World) (m h p : ByteArray) (b off cap : Nat) (l : List Hdr) (hl : l.length ≤ 1048576) (hcap : l.length ≤ cap) (hps : p.size ≤ 1048576) (hset : SetIs w) (hE : ErrsIs w E) (hat : HeadsAt w b off l) :
    Calls Tryz.prog 8 #[.agg #[.string m, .string h, .string p, .slice (some ⟨b, off, none⟩) l.length cap]] w fun e w' => BGot (reqC m h p l) (reqB m h p l) w.heap.size e w' ∧ Below w.heap.size w w' := by
  obtain ⟨W, hW⟩ : ∃ W, W = (w.alloc (.cells #[.string m, .string h, .string p, .slice (some ⟨b, off, none⟩) l.length cap] 26)).alloc (.cells #[.int .i64 0, .slice none 0 0] 29) := ⟨_, rfl⟩
  have HW : Hid (W = (w.alloc (.cells #[.string m, .string h, .string p, .slice (some ⟨b, off, none⟩) l.length cap] 26)).alloc (.cells #[.int .i64 0, .slice none 0 0] 29)) := hW
  have bW : Below w.heap.size w W := by rw [hW]; exact ((Below.refl _ _).alloc (Nat.le_refl _) _).alloc (by simp) _
  have f0 : Four W w.heap.size (.string m) (.string h) (.string p) (.slice (some ⟨b, off, none⟩) l.length cap) := by rw [hW]; exact (Four.new _ _ _ _ _ _).keep ((Below.refl _ _).alloc (Nat.le_refl _) _)
  have t0 : Two W (w.heap.size + 1) (.int .i64 0) (.slice none 0 0) := by
    rw [hW]
    have := Two.new (w.alloc (.cells #[.string m, .string h, .string p, .slice (some ⟨b, off, none⟩) l.length cap] 26)) (.int .i64 0) (.slice none 0 0) 29
    simpa using this
  have C := implReq_any E W m h p _ cap l hl hcap hps (hset.below bW) (hE.below bW) (.inr ⟨b, off, rfl, hat.keep bW⟩)
  have K0 : Hid (Below w.heap.size w W ∧ Four W w.heap.size (.string m) (.string h) (.string p) (.slice (some ⟨b, off, none⟩) l.length cap) ∧ Two W (w.heap.size + 1) (.int .i64 0) (.slice none 0 0)) := ⟨bW, f0, t0⟩
  have HI : Hid (∀ X, Below w.heap.size w X → HeadsAt X b off l ∧ SetIs X) := fun X hb => ⟨hat.keep hb, hset.below hb⟩
  clear hW bW f0 t0 hat hset hE
  have hc3 := K0.out.2.1.c3
  rw [HW.out] at hc3
  go_enter Tryz.func8, Tryz.ntmps8
  go_wp2_with fail
  rw [← HW.out]
  refine C.mono ?_
  rintro e w1 ⟨rfl, hb1⟩
  have K1 : Hid (Below w.heap.size w w1 ∧ Four w1 w.heap.size (.string m) (.string h) (.string p) (.slice (some ⟨b, off, none⟩) l.length cap) ∧ Two w1 (w.heap.size + 1) (.int .i64 0) (.slice none 0 0)) := ⟨K0.out.1.trans (hb1.mono K0.out.1.size), K0.out.2.1.keep hb1, K0.out.2.2.keep hb1⟩
  clear C hb1 K0 HW hc3
  by_cases c0 : reqC m h p l = 0
  · have HB0 : Hid (reqB m h p l = reqL m h p l) := by show _ = _; rw [reqB, if_pos c0]
    obtain ⟨y1, y2, y3, y4⟩ := reqC_zero c0
    obtain ⟨z1, z2, z3⟩ := method_size y1
    have HHL : Hid (headsC (⟨hostT, h⟩ :: l) = 0) := host_heads (lineS_true y1).2.1 y2 y4
    have hpl := packL_len HHL.out
    obtain ⟨t, ht⟩ : ∃ t : ByteArray, t = ⟨(packL (⟨hostT, h⟩ :: l)).toArray⟩ := ⟨_, rfl⟩
    have hts : t.size ≤ 6000 := by
      rw [ht]; show (packL (⟨hostT, h⟩ :: l)).toArray.size ≤ 6000; rw [List.size_toArray]
      simp only [List.length_cons] at hpl; omega
    have HP : Hid (∀ X v, Below w.heap.size w X → OwnH X w1.heap.size v (⟨hostT, h⟩ :: l) → Calls Tryz.prog 31 #[v] X fun e w' => e = .returned (.agg #[.int .i64 0, .string t]) ∧ Below X.heap.size X w') := fun X v hb ho => by
      obtain ⟨a', c', e', hi'⟩ := ho.at
      rw [e', ht]
      exact implPack_ok X a' c' _ HHL.out (HI.out X hb).2 hi'
    have HTL : Hid (∀ x : ByteArray, x = m ++ ⟨#[32]⟩ ++ p ++ ⟨#[32]⟩ ++ ⟨#[72, 84, 84, 80, 47, 49, 46, 49]⟩ ++ ⟨#[13, 10]⟩ ++ t ++ ⟨#[13, 10]⟩ → x.data.toList = reqL m h p l) := fun x hx => by
      rw [hx, ht]
      simp only [reqL, verL, happ_list]
    obtain ⟨x1, hx1⟩ : ∃ x : ByteArray, x = m ++ ⟨#[32]⟩ := ⟨_, rfl⟩
    have sx1 : x1.size = (m).size + (⟨#[32]⟩ : ByteArray).size := by rw [hx1, ByteArray.size_append]
    obtain ⟨x2, hx2⟩ : ∃ x : ByteArray, x = x1 ++ p := ⟨_, rfl⟩
    have sx2 : x2.size = (x1).size + (p : ByteArray).size := by rw [hx2, ByteArray.size_append]
    obtain ⟨x3, hx3⟩ : ∃ x : ByteArray, x = x2 ++ ⟨#[32]⟩ := ⟨_, rfl⟩
    have sx3 : x3.size = (x2).size + (⟨#[32]⟩ : ByteArray).size := by rw [hx3, ByteArray.size_append]
    obtain ⟨x4, hx4⟩ : ∃ x : ByteArray, x = x3 ++ ⟨#[72, 84, 84, 80, 47, 49, 46, 49]⟩ := ⟨_, rfl⟩
    have sx4 : x4.size = (x3).size + (⟨#[72, 84, 84, 80, 47, 49, 46, 49]⟩ : ByteArray).size := by rw [hx4, ByteArray.size_append]
    obtain ⟨x5, hx5⟩ : ∃ x : ByteArray, x = x4 ++ ⟨#[13, 10]⟩ := ⟨_, rfl⟩
    have sx5 : x5.size = (x4).size + (⟨#[13, 10]⟩ : ByteArray).size := by rw [hx5, ByteArray.size_append]
    obtain ⟨x6, hx6⟩ : ∃ x : ByteArray, x = x5 ++ t := ⟨_, rfl⟩
    have sx6 : x6.size = (x5).size + (t : ByteArray).size := by rw [hx6, ByteArray.size_append]
    obtain ⟨x7, hx7⟩ : ∃ x : ByteArray, x = x6 ++ ⟨#[13, 10]⟩ := ⟨_, rfl⟩
    have sx7 : x7.size = (x6).size + (⟨#[13, 10]⟩ : ByteArray).size := by rw [hx7, ByteArray.size_append]
    have lit1 : (⟨#[32]⟩ : ByteArray).size = 1 := rfl
    have lit2 : (⟨#[13, 10]⟩ : ByteArray).size = 2 := rfl
    have lit3 : (⟨#[72, 84, 84, 80, 47, 49, 46, 49]⟩ : ByteArray).size = 8 := rfl
    have add1 : ∀ X, (Op.stringOp .add m ⟨#[32]⟩).run Tryz.prog X = .ok (.string x1) X := fun X => by rw [hx1]; exact run_string_add_sum X _ _ (by omega)
    have add2 : ∀ X, (Op.stringOp .add x1 p).run Tryz.prog X = .ok (.string x2) X := fun X => by rw [hx2]; exact run_string_add_sum X _ _ (by omega)
    have add3 : ∀ X, (Op.stringOp .add x2 ⟨#[32]⟩).run Tryz.prog X = .ok (.string x3) X := fun X => by rw [hx3]; exact run_string_add_sum X _ _ (by omega)
    have add4 : ∀ X, (Op.stringOp .add x3 ⟨#[72, 84, 84, 80, 47, 49, 46, 49]⟩).run Tryz.prog X = .ok (.string x4) X := fun X => by rw [hx4]; exact run_string_add_sum X _ _ (by omega)
    have add5 : ∀ X, (Op.stringOp .add x4 ⟨#[13, 10]⟩).run Tryz.prog X = .ok (.string x5) X := fun X => by rw [hx5]; exact run_string_add_sum X _ _ (by omega)
    have add6 : ∀ X, (Op.stringOp .add x5 t).run Tryz.prog X = .ok (.string x6) X := fun X => by rw [hx6]; exact run_string_add_sum X _ _ (by omega)
    have add7 : ∀ X, (Op.stringOp .add x6 ⟨#[13, 10]⟩).run Tryz.prog X = .ok (.string x7) X := fun X => by rw [hx7]; exact run_string_add_sum X _ _ (by omega)
    have HX7 : Hid (x7.data.toList = reqL m h p l) := HTL.out x7 (by rw [hx7, hx6, hx5, hx4, hx3, hx2, hx1])
    clear hx1 hx2 hx3 hx4 hx5 hx6 hx7 lit1 lit2 lit3 sx1 sx2 sx3 sx4 sx5 sx6 sx7 HTL z1 z2 z3 hts
    have r1 := K1.out.2.1.c1
    have aA : Below w1.heap.size w1 (w1.alloc (.cells #[.string ⟨#[72, 111, 115, 116]⟩, .string h] 58)) := (Below.refl _ _).alloc (Nat.le_refl _) _
    have KA : Hid (Below w.heap.size w (w1.alloc (.cells #[.string ⟨#[72, 111, 115, 116]⟩, .string h] 58)) ∧ Four (w1.alloc (.cells #[.string ⟨#[72, 111, 115, 116]⟩, .string h] 58)) w.heap.size (.string m) (.string h) (.string p) (.slice (some ⟨b, off, none⟩) l.length cap) ∧ Two (w1.alloc (.cells #[.string ⟨#[72, 111, 115, 116]⟩, .string h] 58)) (w.heap.size + 1) (.int .i64 0) (.slice none 0 0)) := ⟨K1.out.1.trans (aA.mono K1.out.1.size), K1.out.2.1.keep aA, K1.out.2.2.keep aA⟩
    have r3 := KA.out.2.1.c3
    clear aA
    have HL1 : Hid (w.heap.size + 1 < w1.heap.size) := K1.out.2.2.lt
    have HA1 : Hid (HeadsAt (w1.alloc (.cells #[.string ⟨#[72, 111, 115, 116]⟩, .string h] 58)) b off l) := (HI.out _ K1.out.1).1.keep ((Below.refl _ _).alloc (Nat.le_refl _) _)
    have HO1 : Hid (OwnH (w1.alloc (.cells #[.string ⟨#[72, 111, 115, 116]⟩, .string h] 58)) w1.heap.size (.slice (some ⟨w1.heap.size, 0, none⟩) 1 1) [⟨hostT, h⟩]) := OwnH.one w1 hostT h
    rw [c0]
    have HC0 : Hid (reqC m h p l = 0) := c0
    clear ht y1 y2 y3 c0
    have hln : l.length ≤ 1000 := by omega
    go_wp2_with (at_builtin; refine wpList_append_hdrs _ rfl (.tmp 15) (.tmp 17) rfl w1.heap.size (.slice (some ⟨w1.heap.size, 0, none⟩) 1 1) [⟨hostT, h⟩] b off cap l rfl rfl HO1.out HA1.out (by simp only [List.length_cons, List.length_nil]; omega) (by simp) ?_; intro v2 w2 ho2 hb2 hs2; have K2 : Hid ((Below w.heap.size w w2 ∧ Four w2 w.heap.size (.string m) (.string h) (.string p) (.slice (some ⟨b, off, none⟩) l.length cap) ∧ Two w2 (w.heap.size + 1) (.int .i64 0) (.slice none 0 0)) ∧ OwnH w2 w1.heap.size v2 (⟨hostT, h⟩ :: l)) := ⟨⟨KA.out.1.trans (hb2.mono (by have := HL1.out; omega)), KA.out.2.1.keepB (by have := HL1.out; omega) hb2, KA.out.2.2.keepB HL1.out hb2⟩, ho2⟩; obtain ⟨s0, s1, s2, s3, _, _⟩ := K2.out.1.2.1; clear ho2 hb2 hs2 r1 r3 s1 s3)
    have C6 := HP.out w2 v2 K2.out.1.1 K2.out.2
    clear HP HO1 HA1 KA K1
    refine C6.mono ?_
    rintro e w3 ⟨rfl, hb3⟩
    have K3 : Hid (Below w.heap.size w w3 ∧ Two w3 (w.heap.size + 1) (.int .i64 0) (.slice none 0 0)) := ⟨K2.out.1.1.trans (hb3.mono K2.out.1.1.size), K2.out.1.2.2.keep hb3⟩
    clear C6 hb3 K2 s0 s2
    obtain ⟨C, kc, hcv, hbm⟩ := bytes_of_text w3 x7
    obtain ⟨X, hX⟩ : ∃ X, X = w3.drew.alloc (.cells C 5 (C.size, C.size + 1)) := ⟨_, rfl⟩
    have HX : Hid (Below w3.heap.size w3 X) := by show Below _ _ _; rw [hX]; exact ((Below.refl _ _).drew).alloc (Nat.le_refl _) _
    rw [← hX] at hcv hbm
    have HM : Hid (BMine X w3.heap.size x7.data.toList) := hbm
    clear hbm hX
    obtain ⟨r0, r1, rf, _⟩ := K3.out.2.keep HX.out
    have rf0 := rf 0
    have rf1 := rf 1
    clear rf
    have hft := f_field_text
    go_wp2_with fail
    have T2 := two_put (v0 := .int .i64 0) (v1 := .slice (some ⟨w3.heap.size, 0, none⟩) x7.size kc) (K3.out.2.keep HX.out)
    have bx0 := K3.out.1.trans (HX.out.mono K3.out.1.size)
    have hw3 : w.heap.size + 1 < w3.heap.size := K3.out.2.lt
    refine bodyPost_ret (v := .agg #[.int .i64 0, .slice (some ⟨w3.heap.size, 0, none⟩) x7.size kc]) (by simp [results, Tryz.results8, go_sem, T2.c0, T2.c1]) rfl ⟨⟨_, _, _, (by rw [HC0.out]), .inr ⟨w3.heap.size, kc, ?_, ?_, ?_⟩⟩, (bx0.setCell (by simp) _).setCell (by simp) _⟩
    · rw [HB0.out, ← HX7.out]; congr 1
    · exact K3.out.1.size
    · rw [HB0.out, ← HX7.out]
      exact HM.out.put _ _ (by omega)
  · have HB0 : Hid (reqB m h p l = []) := by show _ = _; rw [reqB, if_neg c0]
    have HF : Hid (∀ e w', e = .returned (.agg #[.int .i64 (reqC m h p l), .slice none 0 0]) → BGot (reqC m h p l) (reqB m h p l) w.heap.size e w') := fun e w' he => by subst he; rw [HB0.out]; exact BGot.nil _ _ _
    obtain ⟨t0, t1, tf, _⟩ := K1.out.2.2
    have tf0 := tf 0
    have tf1 := tf 1
    have HB1 : Hid (Below w.heap.size w w1) := K1.out.1
    have T2 : Hid (Two ((w1.setCell ⟨w.heap.size + 1, 0, none⟩ (.int .i64 (reqC m h p l))).setCell ⟨w.heap.size + 1, 1, none⟩ (.slice none 0 0)) (w.heap.size + 1) (.int .i64 (reqC m h p l)) (.slice none 0 0)) := two_put K1.out.2.2
    clear K1 HI HB0 tf
    obtain ⟨c, hcc⟩ : ∃ c, reqC m h p l = c := ⟨_, rfl⟩
    obtain ⟨bb, hbb⟩ : ∃ bb, reqB m h p l = bb := ⟨_, rfl⟩
    have HCC : Hid (reqC m h p l = c ∧ reqB m h p l = bb) := ⟨hcc, hbb⟩
    rw [hcc] at HF T2 c0 ⊢
    rw [hbb] at HF
    clear hcc hbb
    generalize l.length = n at *
    go_wp2_with fail
    exact bodyPost_ret (v := .agg #[.int .i64 c, .slice none 0 0]) (by simp [results, Tryz.results8, go_sem, T2.out.c0, T2.out.c1]) rfl ⟨by rw [HCC.out.1, HCC.out.2]; exact HF.out _ _ rfl, (HB1.out.setCell (by simp) _).setCell (by simp) _⟩
end Go.Proofs.YtonnggelpjjmmaaGreatDoor
/-
  The draw of a request that may be at fault.
-/
namespace Go.Proofs.YtonnggelpjjmmaaGreatDoor
open Go.ChangeShapes Go.WideShapes Go.ChangeAt Go.RowKit
/-- A request that lies in block R. -/
def RqB (w : World) (R : Nat) (m h p : ByteArray) (hv : Value) : Prop := w.heap[R]? = some (.cells #[.string m, .string h, .string p, hv] 26 (0, 0))
theorem RqB.four {w : World} {R : Nat} {m h p : ByteArray} {hv : Value} (k : RqB w R m h p hv) : Four w R (.string m) (.string h) (.string p) hv := by
  unfold RqB at k
  refine ⟨?_, ?_, ?_, ?_, fun o => ?_, (Array.getElem?_eq_some_iff.1 k).1⟩
  · simp [World.cell?, k]
  · simp [World.cell?, k]
  · simp [World.cell?, k]
  · simp [World.cell?, k]
  · simp [World.frozen?, k]
theorem RqB.new (w : World) (m h p : ByteArray) (hv : Value) : RqB (w.alloc (.cells #[.string m, .string h, .string p, hv] 26)) w.heap.size m h p hv := by
  unfold RqB
  rw [heap_alloc_new]
theorem RqB.of {w w' : World} {R : Nat} {m h p : ByteArray} {hv : Value} (k : RqB w R m h p hv) (e : w'.heap[R]? = w.heap[R]?) : RqB w' R m h p hv := by
  unfold RqB at k ⊢
  rw [e, k]
theorem RqB.lt {w : World} {R : Nat} {m h p : ByteArray} {hv : Value} (k : RqB w R m h p hv) : R < w.heap.size := (Array.getElem?_eq_some_iff.1 k).1
theorem RqB.set0 {w : World} {R : Nat} {m h p : ByteArray} {hv : Value} (k : RqB w R m h p hv) (x : ByteArray) : RqB (w.setCell ⟨R, 0, none⟩ (.string x)) R x h p hv := by
  unfold RqB at *
  unfold World.setCell
  simp [Array.getElem?_modify, k]
theorem RqB.set1 {w : World} {R : Nat} {m h p : ByteArray} {hv : Value} (k : RqB w R m h p hv) (x : ByteArray) : RqB (w.setCell ⟨R, 1, none⟩ (.string x)) R m x p hv := by
  unfold RqB at *
  unfold World.setCell
  simp [Array.getElem?_modify, k]
theorem RqB.set2 {w : World} {R : Nat} {m h p : ByteArray} {hv : Value} (k : RqB w R m h p hv) (x : ByteArray) : RqB (w.setCell ⟨R, 2, none⟩ (.string x)) R m h x hv := by
  unfold RqB at *
  unfold World.setCell
  simp [Array.getElem?_modify, k]
theorem RqB.set3 {w : World} {R : Nat} {m h p : ByteArray} {hv : Value} (k : RqB w R m h p hv) (x : Value) : RqB (w.setCell ⟨R, 3, none⟩ x) R m h p x := by
  unfold RqB at *
  unfold World.setCell
  simp [Array.getElem?_modify, k]
theorem own_ne {w : World} {R base : Nat} {m h p : ByteArray} {hv v : Value} {l : List Hdr} (k : RqB w R m h p hv) (ho : OwnH w base v l) : v.ownBlock ≠ some R := by
  obtain ⟨_, hv | ⟨g, c, cur, rfl, _, hh, _⟩⟩ := ho
  · rw [hv.1]; simp [Value.ownBlock]
  · simp only [Value.ownBlock, ne_eq, Option.some.injEq]
    rintro rfl
    unfold RqB at k
    rw [hh] at k
    simp at k
theorem OwnH.putR {w : World} {base R o : Nat} {v x : Value} {l : List Hdr} (h : OwnH w base v l) (hne : v.ownBlock ≠ some R) : OwnH (w.setCell ⟨R, o, none⟩ x) base v l := by
  obtain ⟨h1, h2⟩ := h
  refine ⟨h1, ?_⟩
  rcases h2 with h2 | ⟨g, c, cur, e, hg, hh, hrest⟩
  · exact .inl h2
  · have : g ≠ R := by
      rintro rfl
      rw [e] at hne
      exact hne rfl
    exact .inr ⟨g, c, cur, e, hg, by rw [setCell_block (by show g ≠ R; exact this)]; exact hh, hrest⟩
theorem wpList_append_hdr_g {ops : Array Oper} {rest : List Oper} {o : Oper} {a : Act} {Q : Exit → Act → World → Prop} (w : World) (hgd : o.guard = none) (s x : Operand)
    (ho : o.op = .call { callee := .builtin .append, args := #[s, x], argTypes := #[24, 24] }) (base : Nat) (v : Value) (l : List Hdr) (n : ByteArray) (z : ByteArray)
    (hs : a.eval s = v) (hx : a.eval x = .slice (some ⟨w.heap.size, 0, none⟩) 1 1) (hown : OwnH w base v l) (hl : l.length ≤ 1000000) (hbase : base ≤ w.heap.size)
    (h : ∀ v' w', OwnH w' base v' (l ++ [⟨n, z⟩]) → Below base w w' → w.heap.size ≤ w'.heap.size → (∀ b, b < w.heap.size → v.ownBlock ≠ some b → w'.heap[b]? = w.heap[b]?) → wpList Tryz.prog ops Q rest (a.put o.dst v') w') :
    wpList Tryz.prog ops Q (o :: rest) a (w.alloc (.cells #[.string n, .string z] 58)) := by
  obtain ⟨i0, hi, hz0, hz1, hz2⟩ := info_parts infoHeader
  refine wpList_append_own _ hgd s x 24 ho base 58 i0 (.agg #[.string ⟨#[]⟩, .string ⟨#[]⟩]) 2 32 Tryz.underlying24 hi hz0 hz1 hz2 rfl (by decide) v l.length (hdrsW l) hs (World.ownsRow.alloc hown _) ⟨w.heap.size, 0, none⟩ 1 1 [.string n, .string z] hx rfl ?_ ?_ ?_ ?_ ?_ ?_
  · intro j u hj
    match j, hj with
    | 0, hj => simp at hj; subst hj; simp [Addr.add]
    | 1, hj => simp at hj; subst hj; simp [Addr.add]
  · intro u hu; simp at hu; rcases hu with rfl | rfl <;> rfl
  · unfold maxLen; omega
  · omega
  · simp; omega
  · intro v' w' h1 h2 h3
    have e : hdrsW (l ++ [⟨n, z⟩]) = hdrsW l ++ [.string n, .string z] := by simp [hdrsW, hdrW]
    refine h v' w' (by unfold OwnH; rw [e, List.length_append]; exact h1) ?_ ?_ ?_
    · exact ((Below.refl base w).alloc hbase _).grown h2 (by simp; omega) (fun q hq => own_geH hown q hq)
    · have hb := ((Below.refl 0 w).alloc (Nat.zero_le _) (.cells #[.string n, .string z] 58)).grown h2 (Nat.zero_le _) (fun q _ => Nat.zero_le _)
      exact hb.size
    · intro b hb hne
      rw [h2.block b (by simp; omega) (fun e => hne e.symm)]
      exact ((Below.refl w.heap.size w).alloc (Nat.le_refl _) (.cells #[.string n, .string z] 58)).block b hb
/-- What stands while a request is bent: the source, the request in block R, the result's empty block. -/
structure BQ (w : World) (B : Nat) (a : Option Addr) (len cap k R : Nat) (m h p : ByteArray) (va : Option Addr) (n vc : Nat) (L : List Hdr) (X : World) : Prop where
  s : Src X B a len cap k
  b : Below B w X
  ap : ApartH B w X
  z : Four X w.heap.size (.string ⟨#[]⟩) (.string ⟨#[]⟩) (.string ⟨#[]⟩) (.slice none 0 0)
  r : RqB X R m h p (.slice va n vc)
  o : OwnH X (w.heap.size + 1) (.slice va n vc) L
  e : n = L.length
  lt : B < w.heap.size
  gt : w.heap.size < R
section
variable {w : World} {B : Nat} {a : Option Addr} {len cap k R : Nat} {m h p : ByteArray} {va : Option Addr} {n vc : Nat} {L : List Hdr} {X : World}
theorem BQ.next (q : BQ w B a len cap k R m h p va n vc L X) {k' : Nat} {X' : World} (hs : Src X' B a len cap k') (hb : Below B X X') (ha : ApartH B X X') : BQ w B a len cap k' R m h p va n vc L X' :=
  ⟨hs, q.b.trans hb, q.ap.trans ha, q.z.apart ha (by have := q.lt; omega), q.r.of (ha.block R q.r.lt (by have := q.lt; have := q.gt; omega)), q.o.apart ha (by have := q.lt; omega), q.e, q.lt, q.gt⟩
theorem BQ.src (q : BQ w B a len cap k R m h p va n vc L X) (i : Nat) (x : Value) : Src (X.setCell ⟨R, i, none⟩ x) B a len cap k :=
  q.s.below ((Below.refl (B + 1) _).setCell (by have := q.lt; have := q.gt; show B + 1 ≤ R; omega) _)
theorem BQ.bel (q : BQ w B a len cap k R m h p va n vc L X) (i : Nat) (x : Value) : Below B w (X.setCell ⟨R, i, none⟩ x) :=
  q.b.setCell (by have := q.lt; have := q.gt; show B ≤ R; omega) _
theorem BQ.apt (q : BQ w B a len cap k R m h p va n vc L X) (i : Nat) (x : Value) : ApartH B w (X.setCell ⟨R, i, none⟩ x) :=
  q.ap.hfresh (by have := q.gt; omega)
theorem BQ.res (q : BQ w B a len cap k R m h p va n vc L X) (i : Nat) (x : Value) : Four (X.setCell ⟨R, i, none⟩ x) w.heap.size (.string ⟨#[]⟩) (.string ⟨#[]⟩) (.string ⟨#[]⟩) (.slice none 0 0) :=
  q.z.keepB (Nat.lt_succ_self _) ((Below.refl (w.heap.size + 1) _).setCell (by have := q.gt; show w.heap.size + 1 ≤ R; omega) _)
theorem BQ.set0 (q : BQ w B a len cap k R m h p va n vc L X) (x : ByteArray) : BQ w B a len cap k R x h p va n vc L (X.setCell ⟨R, 0, none⟩ (.string x)) :=
  ⟨q.src _ _, q.bel _ _, q.apt _ _, q.res _ _, q.r.set0 x, q.o.putR (own_ne q.r q.o), q.e, q.lt, q.gt⟩
theorem BQ.set1 (q : BQ w B a len cap k R m h p va n vc L X) (x : ByteArray) : BQ w B a len cap k R m x p va n vc L (X.setCell ⟨R, 1, none⟩ (.string x)) :=
  ⟨q.src _ _, q.bel _ _, q.apt _ _, q.res _ _, q.r.set1 x, q.o.putR (own_ne q.r q.o), q.e, q.lt, q.gt⟩
theorem BQ.set2 (q : BQ w B a len cap k R m h p va n vc L X) (x : ByteArray) : BQ w B a len cap k R m h x va n vc L (X.setCell ⟨R, 2, none⟩ (.string x)) :=
  ⟨q.src _ _, q.bel _ _, q.apt _ _, q.res _ _, q.r.set2 x, q.o.putR (own_ne q.r q.o), q.e, q.lt, q.gt⟩
theorem BQ.set3 (q : BQ w B a len cap k R m h p va n vc L X) {ua : Option Addr} {u uc : Nat} {M : List Hdr} (ho : OwnH X (w.heap.size + 1) (.slice ua u uc) M) (hu : u = M.length) : BQ w B a len cap k R m h p ua u uc M (X.setCell ⟨R, 3, none⟩ (.slice ua u uc)) :=
  ⟨q.src _ _, q.bel _ _, q.apt _ _, q.res _ _, q.r.set3 _, ho.putR (own_ne q.r ho), hu, q.lt, q.gt⟩
theorem BQ.grow (q : BQ w B a len cap k R m h p va n vc L X) {X' : World} {v' : Value} {M : List Hdr} (ho : OwnH X' (w.heap.size + 1) v' M) (hb : Below (w.heap.size + 1) X X') (hz : X.heap.size ≤ X'.heap.size) (hk : ∀ b, b < X.heap.size → (Value.slice va n vc).ownBlock ≠ some b → X'.heap[b]? = X.heap[b]?) :
    ∃ ua uc, v' = .slice ua M.length uc ∧ BQ w B a len cap k R m h p ua M.length uc M (X'.setCell ⟨R, 3, none⟩ v') := by
  obtain ⟨ua, uc, rfl⟩ := own_len ho
  refine ⟨ua, uc, rfl, ?_⟩
  have lt := q.lt
  have gt := q.gt
  have r' : RqB X' R m h p (.slice va n vc) := q.r.of (hk R q.r.lt (own_ne q.r q.o))
  have s' : Src X' B a len cap k := q.s.below (hb.mono (by omega))
  have b' : Below B w X' := q.b.trans (hb.mono (by omega))
  have a' : ApartH B w X' := ⟨Nat.le_trans q.ap.size hz, fun b hb' hn => by rw [hb.block b (by omega)]; exact q.ap.block b hb' hn⟩
  have z' : Four X' w.heap.size (.string ⟨#[]⟩) (.string ⟨#[]⟩) (.string ⟨#[]⟩) (.slice none 0 0) := q.z.keepB (Nat.lt_succ_self _) hb
  refine ⟨s'.below ((Below.refl (B + 1) _).setCell (by show B + 1 ≤ R; omega) _), b'.setCell (by show B ≤ R; omega) _, a'.hfresh (by omega), z'.keepB (Nat.lt_succ_self _) ((Below.refl (w.heap.size + 1) _).setCell (by show w.heap.size + 1 ≤ R; omega) _), r'.set3 _, ho.putR (own_ne r' ho), rfl, lt, gt⟩
end
def pathZ (R : Nat) (w : World) : Nat := match w.cell? ⟨R, 2, none⟩ with | some (.string r) => r.size | _ => 0
theorem pathZ_of {w : World} {R : Nat} {m h p : ByteArray} {hv : Value} (k : RqB w R m h p hv) : pathZ R w = p.size := by
  unfold pathZ
  rw [k.four.c2]
/-- The last of it: the request is handed on. -/
theorem BQ.done {w : World} {B : Nat} {a : Option Addr} {len cap k R : Nat} {m h p : ByteArray} {va : Option Addr} {n vc : Nat} {L : List Hdr} {X : World} (q : BQ w B a len cap k R m h p va n vc L X) {K N : Nat} (hK : k ≤ K) (hL : L.length ≤ N) (hm : m.size ≤ 1100) (hh : h.size ≤ 1100) (hp : p.size ≤ 1100) (hs : SmallH L) :
    SomeReq (w.heap.size + 1) N (.returned (.agg #[.string m, .string h, .string p, .slice va n vc])) ((((X.setCell ⟨w.heap.size, 0, none⟩ (.string m)).setCell ⟨w.heap.size, 1, none⟩ (.string h)).setCell ⟨w.heap.size, 2, none⟩ (.string p)).setCell ⟨w.heap.size, 3, none⟩ (.slice va n vc)) ∧ (∃ k', k' ≤ K ∧ Src ((((X.setCell ⟨w.heap.size, 0, none⟩ (.string m)).setCell ⟨w.heap.size, 1, none⟩ (.string h)).setCell ⟨w.heap.size, 2, none⟩ (.string p)).setCell ⟨w.heap.size, 3, none⟩ (.slice va n vc)) B a len cap k') ∧ Below B w ((((X.setCell ⟨w.heap.size, 0, none⟩ (.string m)).setCell ⟨w.heap.size, 1, none⟩ (.string h)).setCell ⟨w.heap.size, 2, none⟩ (.string p)).setCell ⟨w.heap.size, 3, none⟩ (.slice va n vc)) ∧ ApartH B w ((((X.setCell ⟨w.heap.size, 0, none⟩ (.string m)).setCell ⟨w.heap.size, 1, none⟩ (.string h)).setCell ⟨w.heap.size, 2, none⟩ (.string p)).setCell ⟨w.heap.size, 3, none⟩ (.slice va n vc)) := by
  have lt := q.lt
  have e := q.e
  subst e
  exact ⟨⟨m, h, p, va, vc, L, rfl, hm, hh, hp, (((q.o.put (by omega)).put (by omega)).put (by omega)).put (by omega), hL, hs⟩, ⟨k, hK, q.s.below (((((Below.refl (B + 1) _).setCell (by simp; omega) _).setCell (by simp; omega) _).setCell (by simp; omega) _).setCell (by simp; omega) _)⟩, (((q.b.setCell (by simp; omega) _).setCell (by simp; omega) _).setCell (by simp; omega) _).setCell (by simp; omega) _, (((q.ap.hfresh (Nat.le_refl _)).hfresh (Nat.le_refl _)).hfresh (Nat.le_refl _)).hfresh (Nat.le_refl _)⟩
set_option maxRecDepth 100000 in
set_option maxHeartbeats 16000000 in
theorem l5Bent_any (w : World) (B : Nat) (a : Option Addr) (len cap k : Nat) (hs : Src w B a len cap k) (hk : k ≤ 700) (hl2 : len ≤ 1048576) :
    Calls Tryz.prog 29 #[.pointer (some ⟨B, 0, none⟩)] w fun e w' => SomeReq (w.heap.size + 1) 21 e w' ∧ (∃ k', k' ≤ k + 3300 ∧ Src w' B a len cap k') ∧ Below B w w' ∧ ApartH B w w' := by
  have hlt := hs.lt
  have HS : Hid (Src (w.alloc (.cells #[.string ⟨#[]⟩, .string ⟨#[]⟩, .string ⟨#[]⟩, .slice none 0 0] 26)) B a len cap k) := hs.alloc _
  have HB : Hid (Below B w (w.alloc (.cells #[.string ⟨#[]⟩, .string ⟨#[]⟩, .string ⟨#[]⟩, .slice none 0 0] 26))) := (Below.refl _ _).alloc (by omega) _
  have HA : Hid (ApartH B w (w.alloc (.cells #[.string ⟨#[]⟩, .string ⟨#[]⟩, .string ⟨#[]⟩, .slice none 0 0] 26))) := ApartH.alloc B w _
  have HR : Hid (Four (w.alloc (.cells #[.string ⟨#[]⟩, .string ⟨#[]⟩, .string ⟨#[]⟩, .slice none 0 0] 26)) w.heap.size (.string ⟨#[]⟩) (.string ⟨#[]⟩) (.string ⟨#[]⟩) (.slice none 0 0)) := Four.new w _ _ _ _ _
  have hz : w.heap.size + 1 ≤ (w.alloc (.cells #[.string ⟨#[]⟩, .string ⟨#[]⟩, .string ⟨#[]⟩, .slice none 0 0] 26)).heap.size := by simp
  clear hs
  have H0 := l5Draw_any _ B a len cap k HS.out (by omega) hl2
  go_enter Tryz.func29, Tryz.ntmps29
  go_wp2_with fail
  refine H0.mono ?_
  rintro e w1 ⟨⟨m, h, p, va, vc, L, rfl, hm, hh, hp, ho, hL, hsm⟩, ⟨k1, hk1, hs1⟩, hb1, ha1⟩
  obtain ⟨n, hn⟩ : ∃ n, Hid (n = L.length) := ⟨_, rfl⟩
  rw [← hn.out] at ho ⊢
  have HL : Hid (SmallH L) := hsm
  have hz1 : w.heap.size + 1 ≤ w1.heap.size := Nat.le_trans hz ha1.size
  have al : ApartH B w1 (w1.alloc (.cells #[.string m, .string h, .string p, .slice va n vc] 26)) := ApartH.alloc B w1 _
  have bl : Below w1.heap.size w1 (w1.alloc (.cells #[.string m, .string h, .string p, .slice va n vc] 26)) := (Below.refl _ _).alloc (Nat.le_refl _) _
  have Q0 : Hid (BQ w B a len cap k1 w1.heap.size m h p va n vc L (w1.alloc (.cells #[.string m, .string h, .string p, .slice va n vc] 26))) :=
    ⟨hs1.alloc _, (HB.out.trans hb1).trans (bl.mono (by omega)), (HA.out.trans ha1).trans al, (HR.out.apart ha1 (by omega)).apart al (by omega), RqB.new w1 m h p _, (ho.below bl).lower (by omega), hn.out, hlt, by omega⟩
  clear hs1 hb1 ha1 ho hsm HS HB HA HR hz al bl H0
  obtain ⟨v1, hv1⟩ : ∃ X, Hid (X = w1.alloc (.cells #[.string m, .string h, .string p, .slice va n vc] 26)) := ⟨_, rfl⟩
  have Q1 : Hid (BQ w B a len cap k1 w1.heap.size m h p va n vc L v1) := by rw [hv1.out]; exact Q0.out
  clear Q0
  have H1 := l1Next_h v1 B a len cap k1 14 Q1.out.s (by omega) (by omega) (by omega) hl2
  go_wp2_with fail
  rw [← hv1.out]
  clear hv1
  generalize w1.heap.size = R at *
  clear w1
  refine H1.mono ?_
  rintro e w2 ⟨⟨x, hx0, hx1, rfl⟩, hs2, hb2, ha2⟩
  have Q2 : Hid (BQ w B a len cap (k1 + 1) R m h p va n vc L w2) := Q1.out.next hs2 hb2 ha2
  clear hs2 hb2 ha2 H1 Q1
  clear v1
  have hxs : x = 0 ∨ x = 1 ∨ x = 2 ∨ x = 3 ∨ x = 4 ∨ x = 5 ∨ 6 ≤ x := by omega
  rcases hxs with rfl | rfl | rfl | rfl | rfl | rfl | hx6
  · have H3 := l1Word_h w2 B a len cap (k1 + 1) Q2.out.s ([⟨#[80, 79, 83, 84]⟩, ⟨#[103, 101, 116]⟩, ⟨#[]⟩] : List ByteArray) 3 rfl (by omega) (by omega) (by omega) hl2
    simp only [List.map_cons, List.map_nil] at H3
    go_wp2_with fail
    refine H3.mono ?_
    rintro e w3 ⟨⟨t, ht, rfl⟩, hs3, hb3, ha3⟩
    have htz := smallH_of ht (by decide)
    have Q3 : Hid (BQ w B a len cap (k1 + 1 + 1) R m h p va n vc L w3) := Q2.out.next hs3 hb3 ha3
    have y0 := Q3.out.r.four.c0
    have yf := Q3.out.r.four.fr 0
    have Q4 : Hid (BQ w B a len cap (k1 + 1 + 1) R t h p va n vc L (w3.setCell ⟨R, 0, none⟩ (.string t))) := Q3.out.set0 t
    obtain ⟨w4, hw4⟩ : ∃ X, Hid (X = w3.setCell ⟨R, 0, none⟩ (.string t)) := ⟨_, rfl⟩
    rw [← hw4.out] at Q4
    clear hs3 hb3 ha3 H3 ht Q2 Q3
    go_upto_region 17 with fail
    rw [← hw4.out]
    clear hw4 y0 yf
    clear w3
    have z0 := Q4.out.z.c0
    have z1 := Q4.out.z.c1
    have z2 := Q4.out.z.c2
    have z3 := Q4.out.z.c3
    have zf0 := Q4.out.z.fr 0
    have zf1 := Q4.out.z.fr 1
    have zf2 := Q4.out.z.fr 2
    have zf3 := Q4.out.z.fr 3
    have y0 := Q4.out.r.four.c0
    have y1 := Q4.out.r.four.c1
    have y2 := Q4.out.r.four.c2
    have y3 := Q4.out.r.four.c3
    go_wp2_with fail
    refine bodyPost_ret (v := .agg #[.string t, .string h, .string p, .slice va n vc]) ?_ rfl (Q4.out.done (K := k + 3300) (N := 21) (by omega) (by omega) htz hh hp HL.out)
    simp [results, Tryz.results29, go_sem, z0, z1, z2, z3]
  · have H3 := l1Word_h w2 B a len cap (k1 + 1) Q2.out.s ([⟨#[]⟩, ⟨#[97, 32, 98]⟩, ⟨#[97, 47, 98]⟩, ⟨#[97, 46, 99, 111, 109, 58, 56, 48]⟩] : List ByteArray) 4 rfl (by omega) (by omega) (by omega) hl2
    simp only [List.map_cons, List.map_nil] at H3
    go_wp2_with fail
    refine H3.mono ?_
    rintro e w3 ⟨⟨t, ht, rfl⟩, hs3, hb3, ha3⟩
    have htz := smallH_of ht (by decide)
    have Q3 : Hid (BQ w B a len cap (k1 + 1 + 1) R m h p va n vc L w3) := Q2.out.next hs3 hb3 ha3
    have y1 := Q3.out.r.four.c1
    have yf := Q3.out.r.four.fr 1
    have Q4 : Hid (BQ w B a len cap (k1 + 1 + 1) R m t p va n vc L (w3.setCell ⟨R, 1, none⟩ (.string t))) := Q3.out.set1 t
    obtain ⟨w4, hw4⟩ : ∃ X, Hid (X = w3.setCell ⟨R, 1, none⟩ (.string t)) := ⟨_, rfl⟩
    rw [← hw4.out] at Q4
    clear hs3 hb3 ha3 H3 ht Q2 Q3
    go_upto_region 17 with fail
    rw [← hw4.out]
    clear hw4 y1 yf
    clear w3
    have z0 := Q4.out.z.c0
    have z1 := Q4.out.z.c1
    have z2 := Q4.out.z.c2
    have z3 := Q4.out.z.c3
    have zf0 := Q4.out.z.fr 0
    have zf1 := Q4.out.z.fr 1
    have zf2 := Q4.out.z.fr 2
    have zf3 := Q4.out.z.fr 3
    have y0 := Q4.out.r.four.c0
    have y1 := Q4.out.r.four.c1
    have y2 := Q4.out.r.four.c2
    have y3 := Q4.out.r.four.c3
    go_wp2_with fail
    refine bodyPost_ret (v := .agg #[.string m, .string t, .string p, .slice va n vc]) ?_ rfl (Q4.out.done (K := k + 3300) (N := 21) (by omega) (by omega) hm htz hp HL.out)
    simp [results, Tryz.results29, go_sem, z0, z1, z2, z3]
  · have H3 := l1Word_h w2 B a len cap (k1 + 1) Q2.out.s ([⟨#[]⟩, ⟨#[120]⟩, ⟨#[47, 97, 32, 98]⟩, ⟨#[47, 1]⟩, ⟨#[47, 97, 34, 98]⟩] : List ByteArray) 5 rfl (by omega) (by omega) (by omega) hl2
    simp only [List.map_cons, List.map_nil] at H3
    go_wp2_with fail
    refine H3.mono ?_
    rintro e w3 ⟨⟨t, ht, rfl⟩, hs3, hb3, ha3⟩
    have htz := smallH_of ht (by decide)
    have Q3 : Hid (BQ w B a len cap (k1 + 1 + 1) R m h p va n vc L w3) := Q2.out.next hs3 hb3 ha3
    have y2 := Q3.out.r.four.c2
    have yf := Q3.out.r.four.fr 2
    have Q4 : Hid (BQ w B a len cap (k1 + 1 + 1) R m h t va n vc L (w3.setCell ⟨R, 2, none⟩ (.string t))) := Q3.out.set2 t
    obtain ⟨w4, hw4⟩ : ∃ X, Hid (X = w3.setCell ⟨R, 2, none⟩ (.string t)) := ⟨_, rfl⟩
    rw [← hw4.out] at Q4
    clear hs3 hb3 ha3 H3 ht Q2 Q3
    go_upto_region 17 with fail
    rw [← hw4.out]
    clear hw4 y2 yf
    clear w3
    have z0 := Q4.out.z.c0
    have z1 := Q4.out.z.c1
    have z2 := Q4.out.z.c2
    have z3 := Q4.out.z.c3
    have zf0 := Q4.out.z.fr 0
    have zf1 := Q4.out.z.fr 1
    have zf2 := Q4.out.z.fr 2
    have zf3 := Q4.out.z.fr 3
    have y0 := Q4.out.r.four.c0
    have y1 := Q4.out.r.four.c1
    have y2 := Q4.out.r.four.c2
    have y3 := Q4.out.r.four.c3
    go_wp2_with fail
    refine bodyPost_ret (v := .agg #[.string m, .string h, .string t, .slice va n vc]) ?_ rfl (Q4.out.done (K := k + 3300) (N := 21) (by omega) (by omega) hm hh htz HL.out)
    simp [results, Tryz.results29, go_sem, z0, z1, z2, z3]
  · have y3 := Q2.out.r.four.c3
    have yf := Q2.out.r.four.fr 3
    have hHn : (⟨#[104, 79, 83, 84]⟩ : ByteArray).size ≤ 1100 := by decide
    have hHv : (⟨#[113]⟩ : ByteArray).size ≤ 1100 := by decide
    have HL2 : Hid (SmallH (L ++ [⟨⟨#[104, 79, 83, 84]⟩, ⟨#[113]⟩⟩])) := HL.out.snoc hHn hHv
    have hzz : w.heap.size + 1 ≤ w2.heap.size := by have := Q2.out.z.lt; omega
    go_upto_region 17 with (at_builtin; refine wpList_append_hdr_g _ rfl (.tmp 30) (.tmp 32) rfl (w.heap.size + 1) _ L ⟨#[104, 79, 83, 84]⟩ ⟨#[113]⟩ rfl (by simp [go_sem]) Q2.out.o (by omega) hzz ?_; intro v6 w6 HO6 hb6 hz6 hk6; obtain ⟨ua, uc, rfl, q6⟩ := Q2.out.grow HO6 hb6 hz6 hk6; have r6 := Q2.out.r.of (hk6 R Q2.out.r.lt (own_ne Q2.out.r Q2.out.o)); obtain ⟨M, hM⟩ : ∃ M : List Hdr, Hid (M = L ++ [(⟨⟨#[104, 79, 83, 84]⟩, ⟨#[113]⟩⟩ : Hdr)]) := ⟨_, rfl⟩; rw [← hM.out] at q6 HL2 ⊢; have hMl : M.length ≤ 21 := (by rw [hM.out]; simp; omega); obtain ⟨un, hun⟩ : ∃ n, Hid (n = M.length) := ⟨_, rfl⟩; rw [← hun.out] at q6 ⊢; have Q6 : Hid (BQ w B a len cap (k1 + 1) R m h p ua un uc M (w6.setCell ⟨R, 3, none⟩ (.slice ua un uc))) := q6; have y36 := r6.four.c3; have yf6 := r6.four.fr 3; clear q6 HO6 hb6 hz6 hk6 r6 hM)
    obtain ⟨w7, hw7⟩ : ∃ X, Hid (X = w6.setCell ⟨R, 3, none⟩ (.slice ua un uc)) := ⟨_, rfl⟩
    rw [← hw7.out] at Q6
    clear y3 yf Q2
    rw [← hw7.out]
    clear hw7 y36 yf6
    try clear w6
    have z0 := Q6.out.z.c0
    have z1 := Q6.out.z.c1
    have z2 := Q6.out.z.c2
    have z3 := Q6.out.z.c3
    have zf0 := Q6.out.z.fr 0
    have zf1 := Q6.out.z.fr 1
    have zf2 := Q6.out.z.fr 2
    have zf3 := Q6.out.z.fr 3
    have y0 := Q6.out.r.four.c0
    have y1 := Q6.out.r.four.c1
    have y2 := Q6.out.r.four.c2
    have y3 := Q6.out.r.four.c3
    go_wp2_with fail
    refine bodyPost_ret (v := .agg #[.string m, .string h, .string p, .slice ua un uc]) ?_ rfl (Q6.out.done (K := k + 3300) (N := 21) (by omega) hMl hm hh hp HL2.out)
    simp [results, Tryz.results29, go_sem, z0, z1, z2, z3]
  · go_wp2_with fail
    refine (l4Bent_any w2 B a len cap (k1 + 1) Q2.out.s (by omega) hl2).mono ?_
    rintro e w3 ⟨⟨v3, M, rfl, ho3, hM, hsm⟩, ⟨k3, hk3, hs3⟩, hb3, ha3⟩
    obtain ⟨ua, uc, rfl⟩ := own_len ho3
    have hzz : w.heap.size + 1 ≤ w2.heap.size := by have := Q2.out.z.lt; omega
    have Q3 : Hid (BQ w B a len cap k3 R m h p va n vc L w3) := Q2.out.next hs3 hb3 ha3
    have HM : Hid (SmallH M) := hsm
    have y3 := Q3.out.r.four.c3
    have yf := Q3.out.r.four.fr 3
    have Q4 : Hid (BQ w B a len cap k3 R m h p ua M.length uc M (w3.setCell ⟨R, 3, none⟩ (.slice ua M.length uc))) := Q3.out.set3 (ho3.lower hzz) rfl
    clear hs3 hb3 ha3 ho3 hsm Q2 Q3
    generalize hun : M.length = un at *
    obtain ⟨w4, hw4⟩ : ∃ X, Hid (X = w3.setCell ⟨R, 3, none⟩ (.slice ua un uc)) := ⟨_, rfl⟩
    rw [← hw4.out] at Q4
    go_upto_region 17 with fail
    rw [← hw4.out]
    clear hw4 y3 yf
    clear w3
    have z0 := Q4.out.z.c0
    have z1 := Q4.out.z.c1
    have z2 := Q4.out.z.c2
    have z3 := Q4.out.z.c3
    have zf0 := Q4.out.z.fr 0
    have zf1 := Q4.out.z.fr 1
    have zf2 := Q4.out.z.fr 2
    have zf3 := Q4.out.z.fr 3
    have y0 := Q4.out.r.four.c0
    have y1 := Q4.out.r.four.c1
    have y2 := Q4.out.r.four.c2
    have y3 := Q4.out.r.four.c3
    go_wp2_with fail
    refine bodyPost_ret (v := .agg #[.string m, .string h, .string p, .slice ua un uc]) ?_ rfl (Q4.out.done (K := k + 3300) (N := 21) (by omega) (by omega) hm hh hp HM.out)
    simp [results, Tryz.results29, go_sem, z0, z1, z2, z3]
  · have H3 := l1Pick_h w2 B a len cap (k1 + 1) Q2.out.s [100, 101] 2 rfl (by omega) (by omega) (by omega) hl2
    simp only [List.map_cons, List.map_nil] at H3
    go_wp2_with fail
    refine H3.mono ?_
    rintro e w3 ⟨⟨q, hq, rfl⟩, hs3, hb3, ha3⟩
    have hqb : 100 ≤ q ∧ q ≤ 101 := by simp at hq; omega
    obtain ⟨hq0, hq1⟩ := hqb
    have Q3 : Hid (BQ w B a len cap (k1 + 1 + 1) R m h p va n vc L w3) := Q2.out.next hs3 hb3 ha3
    clear hs3 hb3 ha3 hq H3 Q2
    go_wp2_with fail
    go_loopw [46] (fun _ wr => ∃ r : ByteArray, r.size ≤ 1100 ∧ BQ w B a len cap (k1 + 1 + 1) R m h r va n vc L wr) (fun _ wr => 1200 - pathZ R wr)
    case atStart => exact ⟨p, hp, Q3.out⟩
    case round =>
      obtain ⟨r, hr, hqr⟩ := hrel
      have QR : Hid (BQ w B a len cap (k1 + 1 + 1) R m h r va n vc L wr) := hqr
      have HZ0 : Hid (pathZ R wr = r.size) := pathZ_of hqr.r
      have y2 := hqr.r.four.c2
      have yf := hqr.r.four.fr 2
      clear hqr Q3
      by_cases hlt2 : (r.size : Int) < q
      · have hadd := fun w => run_string_add_sum (P := Tryz.prog) (w := w) r ⟨#[112]⟩ (by have : (⟨#[112]⟩ : ByteArray).size = 1 := rfl; omega)
        have HZ : Hid ((r ++ (⟨#[112]⟩ : ByteArray)).size = r.size + 1) := by show _ = _; simp [ByteArray.size_append]; rfl
        generalize r ++ (⟨#[112]⟩ : ByteArray) = r' at *
        have Q5 : Hid (BQ w B a len cap (k1 + 1 + 1) R m h r' va n vc L (wr.setCell ⟨R, 2, none⟩ (.string r'))) := QR.out.set2 r'
        go_wp2_with fail
        go_roundw
        case rel => exact ⟨r', by have := HZ.out; omega, Q5.out⟩
        case measure => rw [HZ0.out, pathZ_of Q5.out.r]; have := HZ.out; omega
      · clear HZ0 yf
        skip
        have z0 := QR.out.z.c0
        have z1 := QR.out.z.c1
        have z2 := QR.out.z.c2
        have z3 := QR.out.z.c3
        have zf0 := QR.out.z.fr 0
        have zf1 := QR.out.z.fr 1
        have zf2 := QR.out.z.fr 2
        have zf3 := QR.out.z.fr 3
        have y0 := QR.out.r.four.c0
        have y1 := QR.out.r.four.c1
        have y3 := QR.out.r.four.c3
        go_wp2_with fail
        refine bodyPost_ret (v := .agg #[.string m, .string h, .string r, .slice va n vc]) ?_ rfl (QR.out.done (K := k + 3300) (N := 21) (by omega) (by omega) hm hh hr HL.out)
        simp [results, Tryz.results29, go_sem, z0, z1, z2, z3]
  · have n0 : ¬ x = 0 := by omega
    have n1 : ¬ x = 1 := by omega
    have n2 : ¬ x = 2 := by omega
    have n3 : ¬ x = 3 := by omega
    have n4 : ¬ x = 4 := by omega
    have n5 : ¬ x = 5 := by omega
    have z0 := Q2.out.z.c0
    have z1 := Q2.out.z.c1
    have z2 := Q2.out.z.c2
    have z3 := Q2.out.z.c3
    have zf0 := Q2.out.z.fr 0
    have zf1 := Q2.out.z.fr 1
    have zf2 := Q2.out.z.fr 2
    have zf3 := Q2.out.z.fr 3
    have y0 := Q2.out.r.four.c0
    have y1 := Q2.out.r.four.c1
    have y2 := Q2.out.r.four.c2
    have y3 := Q2.out.r.four.c3
    go_wp2_with fail
    refine bodyPost_ret (v := .agg #[.string m, .string h, .string p, .slice va n vc]) ?_ rfl (Q2.out.done (K := k + 3300) (N := 21) (by omega) (by omega) hm hh hp HL.out)
    simp [results, Tryz.results29, go_sem, z0, z1, z2, z3]
end Go.Proofs.YtonnggelpjjmmaaGreatDoor
/-
  Responses that came in: measured, taken over, compared.
-/
namespace Go.Proofs.YtonnggelpjjmmaaGreatDoor
open Go.ChangeShapes Go.WideShapes Go.ChangeAt Go.RowKit
structure Three (W : World) (B : Nat) (v0 v1 v2 : Value) : Prop where
  c0 : W.cell? ⟨B, 0, none⟩ = some v0
  c1 : W.cell? ⟨B, 1, none⟩ = some v1
  c2 : W.cell? ⟨B, 2, none⟩ = some v2
  fr : ∀ o, W.frozen? ⟨B, o, none⟩ = false
  lt : B < W.heap.size
theorem Three.keep {W W' : World} {B : Nat} {v0 v1 v2 : Value} (h : Three W B v0 v1 v2) (hb : Below W.heap.size W W') : Three W' B v0 v1 v2 :=
  ⟨by rw [hb.cell (p := ⟨B, 0, none⟩) h.lt]; exact h.c0, by rw [hb.cell (p := ⟨B, 1, none⟩) h.lt]; exact h.c1, by rw [hb.cell (p := ⟨B, 2, none⟩) h.lt]; exact h.c2,
    fun o => by rw [hb.frozen (p := ⟨B, o, none⟩) h.lt]; exact h.fr o, Nat.lt_of_lt_of_le h.lt hb.size⟩
theorem Three.new (W : World) (v0 v1 v2 : Value) (t : TypeId) : Three (W.alloc (.cells #[v0, v1, v2] t)) W.heap.size v0 v1 v2 :=
  ⟨by rw [World.cell?_alloc_mark]; rfl, by rw [World.cell?_alloc_mark]; rfl, by rw [World.cell?_alloc_mark]; rfl, fun o => by have e := heap_alloc_new W (.cells #[v0, v1, v2] t); unfold World.frozen?; rw [e]; simp, by simp⟩
def szP (left : Int) (l : List Hdr) (n : Nat) : Int := if szHL left l < 0 then -1 else if szHL left l - (n : Int) < 0 then -1 else szHL left l - (n : Int)
theorem szP_room {left : Int} {l : List Hdr} {n : Nat} (hl : left ≤ 1048576) (hz : ¬ szP left l n < 0) : l.length ≤ 1048576 ∧ n ≤ 1048576 ∧ szP left l n ≤ left := by
  unfold szP at hz ⊢
  by_cases c1 : szHL left l < 0
  · rw [if_pos c1] at hz; omega
  rw [if_neg c1] at hz ⊢
  by_cases c2 : szHL left l - (n : Int) < 0
  · rw [if_pos c2] at hz; omega
  rw [if_neg c2] at hz ⊢
  have a := (szHL_room hl c1).1
  have b := szHL_le c1
  exact ⟨by omega, by omega, by omega⟩
/-- A response of the law's own. -/
def RespRes (k : Nat) (s : Int) (l : List Hdr) (bl : List UInt8) (e : Ending) (w' : World) : Prop :=
  ∃ B, e = .returned (.agg #[.int .i64 s, .slice (some ⟨k + 3, 0, none⟩) l.length l.length, .slice (some ⟨B, 0, none⟩) bl.length bl.length]) ∧ QMine w' (k + 3) l ∧ BMine w' B bl ∧ k + 3 < B
end Go.Proofs.YtonnggelpjjmmaaGreatDoor
