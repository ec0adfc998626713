/-
  Texts of one claim, one behind the other.
-/
import Derived.BigQuiet
import Derived.Deep.RegionWith
import Derived.Lib.Join
import Derived.Lib.LaidTab
import Derived.Lib.QuietBelow
import Derived.Lib.SlTrimSet
import Derived.MakeChecks
import Derived.Maps.OwnSet
import Derived.Stop.LaidErr
import Derived.Test.YtlbagfaiiileoaaGreatDoorRows
import Derived.Test.YtlbagfaiiileoaaGreatDoorMgB
/-
  Quotes, plainly. No Go in sight.
-/
namespace Go.Proofs.YtlbagfaiiileoaaGreatDoor
def plainI (c : Int) : Bool := c == 9 || (decide (32 ≤ c) && decide (c ≤ 126))
def plainL (l : List UInt8) : Bool := l.all fun c => plainI (c.toNat : Int)
theorem plainL_snoc (l : List UInt8) (c : UInt8) : plainL (l ++ [c]) = (plainL l && plainI (c.toNat : Int)) := by simp [plainL]
theorem plainL_of_take (l : List UInt8) (k : Nat) (h : plainL (l.take k) = false) : plainL l = false := by
  have e := List.take_append_drop k l
  rw [← e]
  simp only [plainL] at h ⊢
  rw [List.all_append, h, Bool.false_and]
theorem plainL_not (s : ByteArray) (k : Nat) (h : k < s.size) (hd : plainI (s[k].toNat : Int) = false) : plainL s.data.toList = false := by
  refine plainL_of_take _ (k + 1) ?_
  rw [take_snoc s k h, plainL_snoc, hd, Bool.and_false]
/-- One byte between quotes. -/
def quoteC (c : UInt8) : List UInt8 := if (c.toNat : Int) = 34 ∨ (c.toNat : Int) = 92 then [92, c] else [c]
def quoteB (l : List UInt8) : List UInt8 := l.flatMap quoteC
def quoteL (l : List UInt8) : List UInt8 := [34] ++ quoteB l ++ [34]
theorem quoteB_snoc (l : List UInt8) (c : UInt8) : quoteB (l ++ [c]) = quoteB l ++ quoteC c := by simp [quoteB]
theorem quoteC_yes {c : UInt8} (h : (c.toNat : Int) = 34 ∨ (c.toNat : Int) = 92) : quoteC c = [92, c] := by simp only [quoteC, if_pos h]
theorem quoteC_no {c : UInt8} (h : ¬ ((c.toNat : Int) = 34 ∨ (c.toNat : Int) = 92)) : quoteC c = [c] := by simp only [quoteC, if_neg h]
theorem quoteC_len (c : UInt8) : (quoteC c).length ≤ 2 := by unfold quoteC; split <;> simp
theorem quoteB_len (l : List UInt8) : (quoteB l).length ≤ 2 * l.length := by
  induction l with
  | nil => simp [quoteB]
  | cons c r ih =>
    have := quoteC_len c
    simp only [quoteB, List.flatMap_cons, List.length_append, List.length_cons] at ih ⊢
    omega
theorem quoteB_ge (l : List UInt8) : l.length ≤ (quoteB l).length := by
  induction l with
  | nil => simp
  | cons c r ih =>
    have : 1 ≤ (quoteC c).length := by unfold quoteC; split <;> simp
    simp only [quoteB, List.flatMap_cons, List.length_append, List.length_cons] at ih ⊢
    omega
/-- What stands between quotes, read from behind the first one; acc: what was taken. -/
def unq (acc : List UInt8) : List UInt8 → List UInt8 × Bool
  | [] => ([], false)
  | [c] => if (c.toNat : Int) = 34 then (acc, true) else ([], false)
  | c :: d :: r => if (c.toNat : Int) = 34 then (acc, false) else if (c.toNat : Int) = 92 then unq (acc ++ [d]) r else unq (acc ++ [c]) (d :: r)
/-- A text between quotes: what it tells, and whether it does. -/
def unqT (l : List UInt8) : List UInt8 × Bool := if 2 ≤ l.length ∧ l.head? = some 34 ∧ plainL l = true then unq [] l.tail else ([], false)
theorem unq_end (acc r : List UInt8) (c : UInt8) (h : (c.toNat : Int) = 34) : unq acc (c :: r) = (acc, decide (r = [])) := by
  cases r with
  | nil => rw [unq, if_pos h]; rfl
  | cons d r => rw [unq, if_pos h]; simp
theorem unq_cut (acc : List UInt8) (c : UInt8) (h : (c.toNat : Int) = 92) : unq acc [c] = ([], false) := by
  rw [unq, if_neg (by omega)]
theorem unq_esc (acc r : List UInt8) (c d : UInt8) (h : (c.toNat : Int) = 92) : unq acc (c :: d :: r) = unq (acc ++ [d]) r := by
  rw [unq, if_neg (by omega), if_pos h]
theorem unq_take (acc r : List UInt8) (c : UInt8) (h1 : ¬ (c.toNat : Int) = 34) (h2 : ¬ (c.toNat : Int) = 92) : unq acc (c :: r) = unq (acc ++ [c]) r := by
  cases r with
  | nil => simp only [unq, if_neg h1]
  | cons d r => rw [unq, if_neg h1, if_neg h2]
/-- What was quoted is read as it was. -/
theorem unq_quote (l : List UInt8) : ∀ acc, unq acc (quoteB l ++ [34]) = (acc ++ l, true) := by
  induction l with
  | nil => intro acc; rw [show quoteB [] ++ [34] = [34] from rfl, unq_end _ _ _ (by decide)]; simp
  | cons c r ih =>
    intro acc
    have e : quoteB (c :: r) ++ [34] = quoteC c ++ (quoteB r ++ [34]) := by simp [quoteB]
    rw [e]
    by_cases h : (c.toNat : Int) = 34 ∨ (c.toNat : Int) = 92
    · rw [quoteC_yes h]
      show unq acc (92 :: c :: (quoteB r ++ [34])) = _
      rw [unq_esc _ _ _ _ (by decide), ih]; simp
    · rw [quoteC_no h]
      show unq acc (c :: (quoteB r ++ [34])) = _
      rw [unq_take _ _ _ (by omega) (by omega), ih]; simp
theorem plain_quoteB (l : List UInt8) (h : plainL l = true) : plainL (quoteB l) = true := by
  induction l with
  | nil => rfl
  | cons c r ih =>
    simp only [plainL, List.all_cons, Bool.and_eq_true] at h
    have e : quoteB (c :: r) = quoteC c ++ quoteB r := by simp [quoteB]
    rw [e]
    simp only [plainL, List.all_append, Bool.and_eq_true]
    refine ⟨?_, ih h.2⟩
    unfold quoteC
    split
    · simp [h.1]; decide
    · simp [h.1]
theorem unqT_quote (l : List UInt8) (h : plainL l = true) : unqT (quoteL l) = (l, true) := by
  have hp : plainL (quoteL l) = true := by
    simp only [quoteL, plainL, List.all_append, Bool.and_eq_true]
    exact ⟨⟨by decide, plain_quoteB l h⟩, by decide⟩
  unfold unqT
  rw [if_pos ⟨by simp [quoteL], rfl, hp⟩]
  show unq [] (quoteB l ++ [34]) = _
  rw [unq_quote]; simp
end Go.Proofs.YtlbagfaiiileoaaGreatDoor
/-
  Blanks at both ends: plainly. No Go in sight.
-/
namespace Go.Proofs.YtlbagfaiiileoaaGreatDoor
def blankI (c : Int) : Bool := c == 32 || c == 9
def trimT (s : ByteArray) : ByteArray := ⟨(Lib.trimS s.data.toList [32, 9]).toArray⟩
theorem contains_blank (b : UInt8) : [(32 : UInt8), 9].contains b = blankI (b.toNat : Int) := by
  rw [Bool.eq_iff_iff]
  simp [blankI, List.contains_eq_mem]
  constructor
  · rintro (rfl | rfl) <;> simp
  · rintro (h | h)
    · exact .inl (UInt8.toNat_inj.1 (by simpa using (by omega : b.toNat = 32)))
    · exact .inr (UInt8.toNat_inj.1 (by simpa using (by omega : b.toNat = 9)))
theorem trim_between (l : List UInt8) (k m : Nat) (hkm : k ≤ m) (hm : m ≤ l.length)
    (h1 : ∀ (j : Nat) b, j < k → l[j]? = some b → blankI (b.toNat : Int) = true) (h2 : ∀ b, k < l.length → l[k]? = some b → blankI (b.toNat : Int) = false)
    (h3 : ∀ (j : Nat) b, m ≤ j → l[j]? = some b → blankI (b.toNat : Int) = true) (h4 : ∀ b, k < m → l[m - 1]? = some b → blankI (b.toNat : Int) = false) :
    Lib.trimS l [32, 9] = (l.take m).drop k := by
  by_cases e : k < m
  · have er : Lib.trimRightS l [32, 9] = l.take m := by
      refine Lib.trimRightS_take l _ m hm (fun j b hj hb => ?_) (fun b _ hb => ?_)
      · rw [contains_blank]; exact h3 j b hj hb
      · rw [contains_blank]; exact h4 b e hb
    unfold Lib.trimS
    rw [er]
    refine Lib.trimLeftS_drop _ _ k (by simp; omega) (fun j b hj hb => ?_) (fun b hb => ?_)
    · rw [List.getElem?_take_of_lt (by omega)] at hb
      rw [contains_blank]; exact h1 j b hj hb
    · rw [List.getElem?_take_of_lt (by omega)] at hb
      rw [contains_blank]; exact h2 b (by omega) hb
  · obtain rfl : k = m := by omega
    have ek : k = l.length := by
      by_cases c : k < l.length
      · have a := h2 _ c (List.getElem?_eq_getElem c)
        have b := h3 k _ (Nat.le_refl _) (List.getElem?_eq_getElem c)
        rw [a] at b; cases b
      · omega
    have er : Lib.trimRightS l [32, 9] = l.take 0 := by
      refine Lib.trimRightS_take l _ 0 (Nat.zero_le _) (fun j b _ hb => ?_) (fun b h0 _ => absurd h0 (by omega))
      have hj : j < l.length := (List.getElem?_eq_some_iff.1 hb).1
      rw [contains_blank]; exact h1 j b (by omega) hb
    unfold Lib.trimS
    rw [er]
    simp [Lib.trimLeftS, ek]
theorem trim_extract (s : ByteArray) (k m : Nat) (h : Lib.trimS s.data.toList [32, 9] = (s.data.toList.take m).drop k) : s.extract k m = trimT s := by
  apply ByteArray.ext
  unfold trimT
  rw [h]
  apply Array.ext'
  simp [List.drop_take]
end Go.Proofs.YtlbagfaiiileoaaGreatDoor
/-
  What the model's l1Lower answers.
-/
namespace Go.Proofs.YtlbagfaiiileoaaGreatDoor
open Go.ChangeShapes Go.WideShapes Go.ChangeAt Go.RowKit
def lowS (s : ByteArray) : ByteArray := ⟨(s.data.toList.map lowU).toArray⟩
set_option maxHeartbeats 1000000 in
theorem l1Lower_any (s : ByteArray) (w : World) (hs : s.size ≤ 1048576) :
    Calls Tryz.prog 92 #[.string s] w fun e w' => e = .returned (.string (lowS s)) ∧ Below w.heap.size w w' := by
  obtain ⟨C, cap, hcv, hrow⟩ : ∃ C cap, (convert 9 159 (.string s)).run Tryz.prog w = .ok (.slice (some ⟨w.heap.size, 0, none⟩) s.size cap) (w.drew.alloc (.cells C 5 (C.size, C.size + 1))) ∧ BRow (w.alloc (.cells C 5 (C.size, C.size + 1))) w.heap.size s.data.toList :=
    ⟨_, _, run_bytes_of_string w 9 159 5 s Tryz.underlying9 Tryz.underlying159 Tryz.underlying5, BRow.made w s _ _ rfl⟩
  go_enter Tryz.func92, Tryz.ntmps92
  go_wp2
  go_loopw [4] (fun i wr => ∃ k : Nat, k ≤ s.size ∧ i = .int .i64 k ∧ BRow wr w.heap.size (lowK s.data.toList k) ∧ Below w.heap.size w wr) (fun i _ => s.size - (intOf i).toNat)
  case atStart => exact ⟨0, Nat.zero_le _, rfl, by rw [lowK_zero]; exact ⟨hrow.cell, hrow.free⟩, ((Below.refl _ _).alloc (Nat.le_refl _) _).drew⟩
  case round =>
    obtain ⟨k, hk, rfl, hr, hb⟩ := hrel
    clear hcv hrow
    have hlen := lowK_length s.data.toList k
    by_cases hlt : k < s.size
    · have hl : k < s.data.toList.length := by simpa using hlt
      have hl2 : k < (lowK s.data.toList k).length := by omega
      have hc := hr.cell k hl2
      have hf := hr.free k hl2
      rw [lowK_at _ _ hl hl2] at hc
      have Y : Hid (65 ≤ (s.data.toList[k].toNat : Int) ∧ (s.data.toList[k].toNat : Int) ≤ 90 → BRow (wr.setCell ⟨w.heap.size, k, none⟩ (.int .u8 ((s.data.toList[k].toNat : Int) + 32))) w.heap.size (lowK s.data.toList (k + 1))) := by
        intro ⟨u1, u2⟩
        have := hr.set k (lowU s.data.toList[k])
        rw [lowU_yes _ u1 u2] at this
        rw [lowK_succ _ _ hl]
        exact this
      have N : Hid (¬ (65 ≤ (s.data.toList[k].toNat : Int) ∧ (s.data.toList[k].toNat : Int) ≤ 90) → BRow wr w.heap.size (lowK s.data.toList (k + 1))) := by
        intro u
        rw [lowK_keep _ _ hl u]
        exact hr
      generalize s.data.toList[k] = x at *
      clear hr hlen hl2 hl
      by_cases hU : 65 ≤ (x.toNat : Int) ∧ (x.toNat : Int) ≤ 90
      · have R : Hid (BRow (wr.setCell ⟨w.heap.size, k, none⟩ (.int .u8 ((x.toNat : Int) + 32))) w.heap.size (lowK s.data.toList (k + 1))) := Y.out hU
        obtain ⟨u1, u2⟩ := hU
        have d2 : decide ((x.toNat : Int) ≤ 90) = true := by simpa using u2
        clear Y N
        go_wp2
        go_roundw
        case rel => exact ⟨k + 1, by omega, by go_num, R.out, hb.setCell (Nat.le_refl _) _⟩
        case measure => simp [intOf]; omega
      · have R : Hid (BRow wr w.heap.size (lowK s.data.toList (k + 1))) := N.out hU
        clear Y N
        by_cases u1 : 65 ≤ (x.toNat : Int)
        · have u2 : 90 < (x.toNat : Int) := by omega
          have d2 : decide ((x.toNat : Int) ≤ 90) = false := by simp; omega
          clear hU
          go_wp2
          go_roundw
          case rel => exact ⟨k + 1, by omega, by go_num, R.out, hb⟩
          case measure => simp [intOf]; omega
        · clear hU
          go_wp2
          go_roundw
          case rel => exact ⟨k + 1, by omega, by go_num, R.out, hb⟩
          case measure => simp [intOf]; omega
    · have e : lowK s.data.toList k = s.data.toList.map lowU := lowK_all _ _ (by simp; omega)
      rw [e] at hr
      have hback := hr.back (P := Tryz.prog) 159 9 5 s.size cap (by simp) Tryz.underlying159 Tryz.underlying5 Tryz.underlying9
      have HL : Hid ((⟨(s.data.toList.map lowU).toArray⟩ : ByteArray) = lowS s) := rfl
      generalize (⟨(s.data.toList.map lowU).toArray⟩ : ByteArray) = r at *
      clear hr e hlen
      go_wp2
      go_ret
      exact ⟨ret_str HL.out, hb⟩
end Go.Proofs.YtlbagfaiiileoaaGreatDoor
/-
  Head lines, plainly: their faults, their text, how they are found, set and dropped. No Go in sight.
-/
namespace Go.Proofs.YtlbagfaiiileoaaGreatDoor
def faultH (r : Hdr) : Int := if wordS r.name = false then 5 else if 200 < r.value.size then 2 else if plainL r.value.data.toList = false then 5 else if trimT r.value = r.value then 0 else 5
def faultHL : List Hdr → Int
  | [] => 0
  | r :: l => if faultH r = 0 then faultHL l else faultH r
theorem faultHL_ok {r : Hdr} {l : List Hdr} (h : faultH r = 0) : faultHL (r :: l) = faultHL l := by rw [faultHL, if_pos h]
theorem faultHL_bad {r : Hdr} {l : List Hdr} (h : faultH r ≠ 0) : faultHL (r :: l) = faultH r := by rw [faultHL, if_neg h]
def headsC (l : List Hdr) : Int := if 20 < l.length then 2 else faultHL l
theorem headsC_many {l : List Hdr} (h : 20 < l.length) : headsC l = 2 := by unfold headsC; rw [if_pos h]
theorem headsC_few {l : List Hdr} (h : ¬ 20 < l.length) : headsC l = faultHL l := by unfold headsC; rw [if_neg h]
theorem faultH_zero {r : Hdr} (h : faultH r = 0) : wordS r.name = true ∧ r.value.size ≤ 200 ∧ plainL r.value.data.toList = true ∧ trimT r.value = r.value := by
  unfold faultH at h
  by_cases c1 : wordS r.name = false
  · rw [if_pos c1] at h; omega
  rw [if_neg c1] at h
  by_cases c2 : 200 < r.value.size
  · rw [if_pos c2] at h; omega
  rw [if_neg c2] at h
  by_cases c3 : plainL r.value.data.toList = false
  · rw [if_pos c3] at h; omega
  rw [if_neg c3] at h
  by_cases c4 : trimT r.value = r.value
  · exact ⟨by simpa using c1, by omega, by simpa using c3, c4⟩
  · rw [if_neg c4] at h; omega
theorem faultHL_zero (l : List Hdr) (h : faultHL l = 0) : ∀ (i : Nat) r, l[i]? = some r → faultH r = 0 := by
  induction l with
  | nil => intro i r hr; simp at hr
  | cons x l ih =>
    intro i r hr
    by_cases c : faultH x = 0
    · rw [faultHL_ok c] at h
      cases i with
      | zero => simp at hr; subst hr; exact c
      | succ i => exact ih h i r (by simpa using hr)
    · rw [faultHL_bad c] at h; exact absurd h c
theorem faultHL_of (l : List Hdr) (h : ∀ r ∈ l, faultH r = 0) : faultHL l = 0 := by
  induction l with
  | nil => rfl
  | cons x l ih => rw [faultHL_ok (h x (by simp))]; exact ih fun r hr => h r (by simp [hr])
theorem headsC_zero {l : List Hdr} (h : headsC l = 0) : l.length ≤ 20 ∧ ∀ (i : Nat) r, l[i]? = some r → faultH r = 0 := by
  by_cases c : 20 < l.length
  · rw [headsC_many c] at h; omega
  · rw [headsC_few c] at h; exact ⟨by omega, faultHL_zero l h⟩
theorem hword_max {s : ByteArray} (h : wordS s = true) : s.size ≤ 64 := by
  by_cases c : 64 < s.size
  · rw [wordS_long s c] at h; cases h
  · omega
theorem take_hdr {l : List Hdr} {k : Nat} {r : Hdr} (h : l[k]? = some r) : l.take (k + 1) = l.take k ++ [r] := by rw [List.take_add_one, h]; rfl
theorem happ_list (a b : ByteArray) : (a ++ b).data.toList = a.data.toList ++ b.data.toList := by simp
theorem hof_list {a : ByteArray} {l : List UInt8} (h : a.data.toList = l) : a = ⟨l.toArray⟩ := by subst h; cases a; simp
theorem hret_ct {a b : Int} {s t : ByteArray} (h : a = b ∧ s = t) : Ending.returned (.agg #[.int .i64 b, .string t]) = .returned (.agg #[.int .i64 a, .string s]) := by rw [h.1, h.2]
/-! ### their text -/
def lineL (r : Hdr) : List UInt8 := r.name.data.toList ++ [58, 32] ++ r.value.data.toList ++ [13, 10]
def packL (l : List Hdr) : List UInt8 := l.flatMap lineL
theorem packL_take {l : List Hdr} {k : Nat} {r : Hdr} (h : l[k]? = some r) : packL (l.take (k + 1)) = packL (l.take k) ++ lineL r := by rw [take_hdr h]; simp [packL]
theorem lineL_len {r : Hdr} (h : faultH r = 0) : (lineL r).length ≤ 268 := by
  obtain ⟨h1, h2, _⟩ := faultH_zero h
  have := hword_max h1
  have e1 : r.name.data.toList.length = r.name.size := by simp
  have e2 : r.value.data.toList.length = r.value.size := by simp
  simp only [lineL, List.length_append, List.length_cons, List.length_nil]
  omega
def packT (l : List Hdr) : ByteArray := if headsC l = 0 then ⟨(packL l).toArray⟩ else ⟨#[]⟩
theorem packT_ok {l : List Hdr} (h : headsC l = 0) : packT l = ⟨(packL l).toArray⟩ := by unfold packT; rw [if_pos h]
theorem packT_bad {l : List Hdr} (h : headsC l ≠ 0) : packT l = ⟨#[]⟩ := by unfold packT; rw [if_neg h]
/-! ### names that are alike -/
def askC (l : List Hdr) (name : ByteArray) : Int := if headsC l = 0 then (if wordS name = true then 0 else 5) else headsC l
theorem askC_bad {l : List Hdr} {name : ByteArray} (h : headsC l ≠ 0) : askC l name = headsC l := by unfold askC; rw [if_neg h]
theorem askC_word {l : List Hdr} {name : ByteArray} (h : headsC l = 0) (hw : wordS name = true) : askC l name = 0 := by unfold askC; rw [if_pos h, if_pos hw]
theorem askC_text {l : List Hdr} {name : ByteArray} (h : headsC l = 0) (hw : wordS name = false) : askC l name = 5 := by unfold askC; rw [if_pos h, if_neg (by rw [hw]; decide)]
theorem askC_zero {l : List Hdr} {name : ByteArray} (h : askC l name = 0) : headsC l = 0 ∧ wordS name = true := by
  by_cases c : headsC l = 0
  · cases hw : wordS name
    · rw [askC_text c hw] at h; omega
    · exact ⟨c, rfl⟩
  · rw [askC_bad c] at h; exact absurd h c
/-- The values of all lines whose name, in small letters, is x. -/
def valsOf (x : ByteArray) (l : List Hdr) : List ByteArray := (l.filter fun r => decide (lowS r.name = x)).map (·.value)
theorem valsOf_yes {x : ByteArray} {r : Hdr} (l : List Hdr) (h : lowS r.name = x) : valsOf x (l ++ [r]) = valsOf x l ++ [r.value] := by simp [valsOf, h]
theorem valsOf_no {x : ByteArray} {r : Hdr} (l : List Hdr) (h : ¬ lowS r.name = x) : valsOf x (l ++ [r]) = valsOf x l := by simp [valsOf, h]
def hjoinL (vs : List ByteArray) : List UInt8 := Lib.join (vs.map (·.data.toList)) [44, 32]
theorem hjoinL_snoc (vs : List ByteArray) (v : ByteArray) : hjoinL (vs ++ [v]) = hjoinL vs ++ (if vs = [] then [] else [44, 32]) ++ v.data.toList := by
  unfold hjoinL
  cases vs with
  | nil => simp [Lib.join, List.intercalate]
  | cons a r =>
    rw [List.map_append, List.map_cons, List.cons_append, Lib.join_cons, Lib.join_cons]
    simp [Lib.joinTail]
def joinC (l : List Hdr) (name : ByteArray) : Int := if askC l name = 0 then (if valsOf (lowS name) l = [] then 4 else 0) else askC l name
def joinT (l : List Hdr) (name : ByteArray) : ByteArray := if joinC l name = 0 then ⟨(hjoinL (valsOf (lowS name) l)).toArray⟩ else ⟨#[]⟩
theorem join_bad {l : List Hdr} {name : ByteArray} (h : askC l name ≠ 0) : joinC l name = askC l name ∧ joinT l name = ⟨#[]⟩ := by
  have e : joinC l name = askC l name := by unfold joinC; rw [if_neg h]
  exact ⟨e, by unfold joinT; rw [if_neg (by rw [e]; exact h)]⟩
theorem join_none {l : List Hdr} {name : ByteArray} (h : askC l name = 0) (hv : valsOf (lowS name) l = []) : joinC l name = 4 ∧ joinT l name = ⟨#[]⟩ := by
  have e : joinC l name = 4 := by unfold joinC; rw [if_pos h, if_pos hv]
  exact ⟨e, by unfold joinT; rw [if_neg (by rw [e]; decide)]⟩
theorem join_some {l : List Hdr} {name : ByteArray} (h : askC l name = 0) (hv : valsOf (lowS name) l ≠ []) : joinC l name = 0 ∧ joinT l name = ⟨(hjoinL (valsOf (lowS name) l)).toArray⟩ := by
  have e : joinC l name = 0 := by unfold joinC; rw [if_pos h, if_neg hv]
  exact ⟨e, by unfold joinT; rw [if_pos e]⟩
/-- What is left without the lines whose name, in small letters, is x. -/
def dropH (x : ByteArray) (l : List Hdr) : List Hdr := l.filter fun r => decide (¬ lowS r.name = x)
theorem dropH_yes {x : ByteArray} {r : Hdr} (l : List Hdr) (h : lowS r.name = x) : dropH x (l ++ [r]) = dropH x l := by simp [dropH, h]
theorem dropH_no {x : ByteArray} {r : Hdr} (l : List Hdr) (h : ¬ lowS r.name = x) : dropH x (l ++ [r]) = dropH x l ++ [r] := by simp [dropH, h]
theorem dropH_len (x : ByteArray) (l : List Hdr) : (dropH x l).length ≤ l.length := List.length_filter_le _ _
def dropL (l : List Hdr) (name : ByteArray) : List Hdr := if askC l name = 0 then dropH (lowS name) l else []
/-- Where the first line of that name stands. -/
def firstAt (x : ByteArray) : List Hdr → Option Nat
  | [] => none
  | r :: l => if lowS r.name = x then some 0 else (firstAt x l).map (· + 1)
theorem firstAt_none {x : ByteArray} : ∀ {l : List Hdr}, firstAt x l = none → ∀ r ∈ l, ¬ lowS r.name = x
  | [], _, r, hr => by simp at hr
  | y :: l, h, r, hr => by
    by_cases c : lowS y.name = x
    · rw [firstAt, if_pos c] at h; cases h
    · rw [firstAt, if_neg c] at h
      rcases List.mem_cons.1 hr with rfl | hr
      · exact c
      · exact firstAt_none (Option.map_eq_none_iff.1 h) r hr
theorem firstAt_lt {x : ByteArray} : ∀ {l : List Hdr} {i : Nat}, firstAt x l = some i → i < l.length
  | [], i, h => by simp [firstAt] at h
  | y :: l, i, h => by
    by_cases c : lowS y.name = x
    · rw [firstAt, if_pos c] at h; obtain rfl := Option.some.inj h; simp
    · rw [firstAt, if_neg c] at h
      obtain ⟨j, hj, rfl⟩ := Option.map_eq_some_iff.1 h
      have := firstAt_lt hj
      simp only [List.length_cons]; omega
theorem firstAt_snoc {x : ByteArray} (r : Hdr) : ∀ (l : List Hdr), firstAt x (l ++ [r]) = match firstAt x l with | some i => some i | none => if lowS r.name = x then some l.length else none
  | [] => by simp [firstAt]
  | y :: l => by
    by_cases c : lowS y.name = x
    · simp [firstAt, c]
    · simp only [List.cons_append, firstAt, if_neg c]
      rw [firstAt_snoc r l]
      cases firstAt x l with
      | some i => rfl
      | none => simp only [Option.map_none]; split <;> simp
theorem valsOf_first {x : ByteArray} : ∀ {l : List Hdr}, valsOf x l = [] ↔ firstAt x l = none
  | [] => by simp [valsOf, firstAt]
  | y :: l => by
    by_cases c : lowS y.name = x
    · simp [valsOf, firstAt, c]
    · have := @valsOf_first x l
      simp only [valsOf] at this
      simp only [valsOf, firstAt, List.filter_cons, c, decide_false, Bool.false_eq_true, if_false, this, Option.map_eq_none_iff]
theorem valsOf_drop {x : ByteArray} : ∀ {l : List Hdr} {i : Nat}, firstAt x l = some i → valsOf x (l.drop i) = valsOf x l ∧ valsOf x (l.take i) = []
  | [], i, h => by simp [firstAt] at h
  | y :: l, i, h => by
    by_cases c : lowS y.name = x
    · rw [firstAt, if_pos c] at h; obtain rfl := Option.some.inj h; simp [valsOf]
    · rw [firstAt, if_neg c] at h
      obtain ⟨j, hj, rfl⟩ := Option.map_eq_some_iff.1 h
      have := valsOf_drop hj
      simp only [valsOf] at this
      simp only [valsOf, List.drop_succ_cons, List.take_succ_cons, List.filter_cons, c, decide_false, Bool.false_eq_true, if_false]
      exact this
/-- A line set. -/
def setGo (h : Hdr) : Bool → List Hdr → List Hdr
  | done, [] => if done = true then [] else [h]
  | done, r :: l => if lowS r.name = lowS h.name then (if done = true then setGo h true l else h :: setGo h true l) else r :: setGo h done l
theorem setGo_done (h : Hdr) : ∀ l : List Hdr, setGo h true l = dropH (lowS h.name) l
  | [] => by simp [setGo, dropH]
  | r :: l => by
    have ih := setGo_done h l
    by_cases c : lowS r.name = lowS h.name
    · simp only [setGo, if_true, ih, dropH, List.filter_cons, c, not_true_eq_false, decide_false, Bool.false_eq_true, if_false]
    · simp [setGo, ih, dropH, c]
theorem setGo_first (h : Hdr) : ∀ (l : List Hdr), setGo h false l = match firstAt (lowS h.name) l with
    | some i => (dropH (lowS h.name) l).take i ++ [h] ++ (dropH (lowS h.name) l).drop i
    | none => dropH (lowS h.name) l ++ [h]
  | [] => by simp [setGo, firstAt, dropH]
  | r :: l => by
    have ih := setGo_first h l
    by_cases c : lowS r.name = lowS h.name
    · simp only [setGo, firstAt, setGo_done, dropH, List.filter_cons, c, not_true_eq_false, decide_false, Bool.false_eq_true, if_false]
      simp
    · simp only [setGo, if_neg c, firstAt]
      rw [ih]
      have e : dropH (lowS h.name) (r :: l) = r :: dropH (lowS h.name) l := by simp [dropH, c]
      rw [e]
      cases firstAt (lowS h.name) l with
      | none => simp
      | some i => simp
theorem dropH_all {x : ByteArray} {l : List Hdr} (h : firstAt x l = none) : dropH x l = l := by
  unfold dropH
  rw [List.filter_eq_self]
  intro r hr
  simpa using firstAt_none h r hr
theorem setGo_len (h : Hdr) (l : List Hdr) : (setGo h false l).length = match firstAt (lowS h.name) l with | some _ => (dropH (lowS h.name) l).length + 1 | none => l.length + 1 := by
  rw [setGo_first]
  cases c : firstAt (lowS h.name) l with
  | none => simp [dropH_all c]
  | some i =>
    simp only [List.length_append, List.length_cons, List.length_nil, List.length_take, List.length_drop]
    omega
theorem dropH_lt {x : ByteArray} {i : Nat} : ∀ {l : List Hdr}, firstAt x l = some i → (dropH x l).length < l.length
  | [], h => by simp [firstAt] at h
  | r :: l, h => by
    by_cases c : lowS r.name = x
    · have := dropH_len x l
      simp only [dropH] at this
      simp only [dropH, List.filter_cons, c, not_true_eq_false, decide_false, Bool.false_eq_true, if_false, List.length_cons]
      omega
    · rw [firstAt, if_neg c] at h
      obtain ⟨j, hj, rfl⟩ := Option.map_eq_some_iff.1 h
      have := dropH_lt hj
      simp only [dropH] at this
      simp only [dropH, List.filter_cons, c, not_false_eq_true, decide_true, if_true, List.length_cons]
      omega
def setC (l : List Hdr) (h : Hdr) : Int := if askC l h.name = 0 then (if faultH h = 0 then (if 20 < (setGo h false l).length then 2 else 0) else faultH h) else askC l h.name
def setL (l : List Hdr) (h : Hdr) : List Hdr := if setC l h = 0 then setGo h false l else []
end Go.Proofs.YtlbagfaiiileoaaGreatDoor
/-
  What the model's l1WordByte answers at any byte.
-/
namespace Go.Proofs.YtlbagfaiiileoaaGreatDoor
open Go.ChangeShapes Go.WideShapes Go.ChangeAt Go.RowKit
set_option maxHeartbeats 400000 in
theorem wordByte_33 (w : World) :
    Calls Tryz.prog 207 #[.int .u8 33] w fun e w' => e = .returned (.bool (wordI 33)) ∧ w' = w := by
  have W : wordI 33 = true := by decide +kernel
  rw [W]
  clear W
  go_enter Tryz.func207, Tryz.ntmps207
  go_wp2
  go_ret
  exact ⟨rfl, rfl⟩
set_option maxHeartbeats 400000 in
theorem wordByte_35 (w : World) :
    Calls Tryz.prog 207 #[.int .u8 35] w fun e w' => e = .returned (.bool (wordI 35)) ∧ w' = w := by
  have W : wordI 35 = true := by decide +kernel
  rw [W]
  clear W
  go_enter Tryz.func207, Tryz.ntmps207
  go_wp2
  go_ret
  exact ⟨rfl, rfl⟩
set_option maxHeartbeats 400000 in
theorem wordByte_36 (w : World) :
    Calls Tryz.prog 207 #[.int .u8 36] w fun e w' => e = .returned (.bool (wordI 36)) ∧ w' = w := by
  have W : wordI 36 = true := by decide +kernel
  rw [W]
  clear W
  go_enter Tryz.func207, Tryz.ntmps207
  go_wp2
  go_ret
  exact ⟨rfl, rfl⟩
set_option maxHeartbeats 400000 in
theorem wordByte_37 (w : World) :
    Calls Tryz.prog 207 #[.int .u8 37] w fun e w' => e = .returned (.bool (wordI 37)) ∧ w' = w := by
  have W : wordI 37 = true := by decide +kernel
  rw [W]
  clear W
  go_enter Tryz.func207, Tryz.ntmps207
  go_wp2
  go_ret
  exact ⟨rfl, rfl⟩
set_option maxHeartbeats 400000 in
theorem wordByte_38 (w : World) :
    Calls Tryz.prog 207 #[.int .u8 38] w fun e w' => e = .returned (.bool (wordI 38)) ∧ w' = w := by
  have W : wordI 38 = true := by decide +kernel
  rw [W]
  clear W
  go_enter Tryz.func207, Tryz.ntmps207
  go_wp2
  go_ret
  exact ⟨rfl, rfl⟩
set_option maxHeartbeats 400000 in
theorem wordByte_39 (w : World) :
    Calls Tryz.prog 207 #[.int .u8 39] w fun e w' => e = .returned (.bool (wordI 39)) ∧ w' = w := by
  have W : wordI 39 = true := by decide +kernel
  rw [W]
  clear W
  go_enter Tryz.func207, Tryz.ntmps207
  go_wp2
  go_ret
  exact ⟨rfl, rfl⟩
set_option maxHeartbeats 400000 in
theorem wordByte_42 (w : World) :
    Calls Tryz.prog 207 #[.int .u8 42] w fun e w' => e = .returned (.bool (wordI 42)) ∧ w' = w := by
  have W : wordI 42 = true := by decide +kernel
  rw [W]
  clear W
  go_enter Tryz.func207, Tryz.ntmps207
  go_wp2
  go_ret
  exact ⟨rfl, rfl⟩
set_option maxHeartbeats 400000 in
theorem wordByte_43 (w : World) :
    Calls Tryz.prog 207 #[.int .u8 43] w fun e w' => e = .returned (.bool (wordI 43)) ∧ w' = w := by
  have W : wordI 43 = true := by decide +kernel
  rw [W]
  clear W
  go_enter Tryz.func207, Tryz.ntmps207
  go_wp2
  go_ret
  exact ⟨rfl, rfl⟩
set_option maxHeartbeats 400000 in
theorem wordByte_45 (w : World) :
    Calls Tryz.prog 207 #[.int .u8 45] w fun e w' => e = .returned (.bool (wordI 45)) ∧ w' = w := by
  have W : wordI 45 = true := by decide +kernel
  rw [W]
  clear W
  go_enter Tryz.func207, Tryz.ntmps207
  go_wp2
  go_ret
  exact ⟨rfl, rfl⟩
set_option maxHeartbeats 400000 in
theorem wordByte_46 (w : World) :
    Calls Tryz.prog 207 #[.int .u8 46] w fun e w' => e = .returned (.bool (wordI 46)) ∧ w' = w := by
  have W : wordI 46 = true := by decide +kernel
  rw [W]
  clear W
  go_enter Tryz.func207, Tryz.ntmps207
  go_wp2
  go_ret
  exact ⟨rfl, rfl⟩
set_option maxHeartbeats 400000 in
theorem wordByte_94 (w : World) :
    Calls Tryz.prog 207 #[.int .u8 94] w fun e w' => e = .returned (.bool (wordI 94)) ∧ w' = w := by
  have W : wordI 94 = true := by decide +kernel
  rw [W]
  clear W
  go_enter Tryz.func207, Tryz.ntmps207
  go_wp2
  go_ret
  exact ⟨rfl, rfl⟩
set_option maxHeartbeats 400000 in
theorem wordByte_95 (w : World) :
    Calls Tryz.prog 207 #[.int .u8 95] w fun e w' => e = .returned (.bool (wordI 95)) ∧ w' = w := by
  have W : wordI 95 = true := by decide +kernel
  rw [W]
  clear W
  go_enter Tryz.func207, Tryz.ntmps207
  go_wp2
  go_ret
  exact ⟨rfl, rfl⟩
set_option maxHeartbeats 400000 in
theorem wordByte_124 (w : World) :
    Calls Tryz.prog 207 #[.int .u8 124] w fun e w' => e = .returned (.bool (wordI 124)) ∧ w' = w := by
  have W : wordI 124 = true := by decide +kernel
  rw [W]
  clear W
  go_enter Tryz.func207, Tryz.ntmps207
  go_wp2
  go_ret
  exact ⟨rfl, rfl⟩
set_option maxHeartbeats 400000 in
theorem wordByte_126 (w : World) :
    Calls Tryz.prog 207 #[.int .u8 126] w fun e w' => e = .returned (.bool (wordI 126)) ∧ w' = w := by
  have W : wordI 126 = true := by decide +kernel
  rw [W]
  clear W
  go_enter Tryz.func207, Tryz.ntmps207
  go_wp2
  go_ret
  exact ⟨rfl, rfl⟩
set_option maxHeartbeats 1000000 in
theorem wordByte_else (c : Int) (w : World) (h0 : 0 ≤ c) (h1 : c < 256) (hs : signI c.toNat = false) :
    Calls Tryz.prog 207 #[.int .u8 c] w fun e w' => e = .returned (.bool (wordI c)) ∧ w' = w := by
  have HE : Hid (wordI c = ((decide (97 ≤ c) && decide (c ≤ 122)) || (decide (65 ≤ c) && decide (c ≤ 90)) || (decide (48 ≤ c) && decide (c ≤ 57)))) := by
    show _ = _
    rw [wordI_eq c h0 h1, hs, Bool.false_or]
  obtain ⟨n, rfl⟩ := Int.eq_ofNat_of_zero_le h0
  simp only [Int.toNat_natCast, signI, List.contains_eq_mem, List.mem_cons, List.not_mem_nil, or_false, decide_eq_false_iff_not, not_or] at hs
  obtain ⟨s0, s1, s2, s3, s4, s5, s6, s7, s8, s9, s10, s11, s12, s13⟩ := hs
  have t0 : ((n : Int) == 33) = false := by simp; omega
  have t1 : ((n : Int) == 35) = false := by simp; omega
  have t2 : ((n : Int) == 36) = false := by simp; omega
  have t3 : ((n : Int) == 37) = false := by simp; omega
  have t4 : ((n : Int) == 38) = false := by simp; omega
  have t5 : ((n : Int) == 39) = false := by simp; omega
  have t6 : ((n : Int) == 42) = false := by simp; omega
  have t7 : ((n : Int) == 43) = false := by simp; omega
  have t8 : ((n : Int) == 45) = false := by simp; omega
  have t9 : ((n : Int) == 46) = false := by simp; omega
  have t10 : ((n : Int) == 94) = false := by simp; omega
  have t11 : ((n : Int) == 95) = false := by simp; omega
  have t12 : ((n : Int) == 124) = false := by simp; omega
  have t13 : ((n : Int) == 126) = false := by simp; omega
  clear s0 s1 s2 s3 s4 s5 s6 s7 s8 s9 s10 s11 s12 s13
  generalize (n : Int) = c at *
  clear n
  have key : ∀ b : Bool, wordI c = b → Ending.returned (.bool b) = .returned (.bool (wordI c)) := fun b h => by rw [h]
  have KEY : Hid (∀ b : Bool, wordI c = b → Ending.returned (.bool b) = .returned (.bool (wordI c))) := key
  clear key
  by_cases c1 : c < 48
  · have W : Hid (wordI c = false) := by
      show _ = _
      rw [HE.out]; simp; omega
    go_enter Tryz.func207, Tryz.ntmps207
    go_wp2
    go_ret
    exact ⟨KEY.out _ W.out, rfl⟩
  by_cases c2 : c ≤ 57
  · have W : Hid (wordI c = true) := by
      show _ = _
      rw [HE.out]; simp; omega
    have d1 : decide (c ≤ 57) = true := by simpa using c2
    go_enter Tryz.func207, Tryz.ntmps207
    go_wp2
    go_ret
    exact ⟨KEY.out _ W.out, rfl⟩
  have d2 : decide (c ≤ 57) = false := by simpa using c2
  by_cases c3 : c < 65
  · have W : Hid (wordI c = false) := by
      show _ = _
      rw [HE.out]; simp; omega
    go_enter Tryz.func207, Tryz.ntmps207
    go_wp2
    go_ret
    exact ⟨KEY.out _ W.out, rfl⟩
  by_cases c4 : c ≤ 90
  · have W : Hid (wordI c = true) := by
      show _ = _
      rw [HE.out]; simp; omega
    have d1 : decide (c ≤ 90) = true := by simpa using c4
    go_enter Tryz.func207, Tryz.ntmps207
    go_wp2
    go_ret
    exact ⟨KEY.out _ W.out, rfl⟩
  have d4 : decide (c ≤ 90) = false := by simpa using c4
  by_cases c5 : c < 97
  · have W : Hid (wordI c = false) := by
      show _ = _
      rw [HE.out]; simp; omega
    go_enter Tryz.func207, Tryz.ntmps207
    go_wp2
    go_ret
    exact ⟨KEY.out _ W.out, rfl⟩
  by_cases c6 : c ≤ 122
  · have W : Hid (wordI c = true) := by
      show _ = _
      rw [HE.out]; simp; omega
    have d1 : decide (c ≤ 122) = true := by simpa using c6
    go_enter Tryz.func207, Tryz.ntmps207
    go_wp2
    go_ret
    exact ⟨KEY.out _ W.out, rfl⟩
  have d6 : decide (c ≤ 122) = false := by simpa using c6
  have W : Hid (wordI c = false) := by
    show _ = _
    rw [HE.out]; simp; omega
  go_enter Tryz.func207, Tryz.ntmps207
  go_wp2
  go_ret
  exact ⟨KEY.out _ W.out, rfl⟩
theorem wordByte_any (c : Int) (w : World) (h0 : 0 ≤ c) (h1 : c < 256) :
    Calls Tryz.prog 207 #[.int .u8 c] w fun e w' => e = .returned (.bool (wordI c)) ∧ w' = w := by
  cases h : signI c.toNat
  · exact wordByte_else c w h0 h1 h
  · obtain ⟨n, rfl⟩ := Int.eq_ofNat_of_zero_le h0
    simp only [Int.toNat_natCast, signI, List.contains_eq_mem, List.mem_cons, List.not_mem_nil, or_false, decide_eq_true_eq] at h
    rcases h with rfl | rfl | rfl | rfl | rfl | rfl | rfl | rfl | rfl | rfl | rfl | rfl | rfl | rfl
    · exact wordByte_33 w
    · exact wordByte_35 w
    · exact wordByte_36 w
    · exact wordByte_37 w
    · exact wordByte_38 w
    · exact wordByte_39 w
    · exact wordByte_42 w
    · exact wordByte_43 w
    · exact wordByte_45 w
    · exact wordByte_46 w
    · exact wordByte_94 w
    · exact wordByte_95 w
    · exact wordByte_124 w
    · exact wordByte_126 w
end Go.Proofs.YtlbagfaiiileoaaGreatDoor
/-
  What the model's IsWord answers, and hasOnly over the table.
-/
namespace Go.Proofs.YtlbagfaiiileoaaGreatDoor
open Go.ChangeShapes Go.WideShapes Go.ChangeAt Go.RowKit
set_option maxHeartbeats 400000 in
theorem specIsWord_size (s : ByteArray) (w : World) (h : s.size < 1 ∨ 64 < s.size) :
    Calls Tryz.prog 156 #[.string s] w fun e w' => e = .returned (.bool false) ∧ w' = w := by
  rcases h with h | h
  · have hh : (s.size : Int) < 1 := by omega
    go_enter Tryz.func156, Tryz.ntmps156
    go_wp2
    go_ret
    exact ⟨rfl, rfl⟩
  · have hh : (64 : Int) < s.size := by omega
    have h1 : ¬ (s.size : Int) < 1 := by omega
    go_enter Tryz.func156, Tryz.ntmps156
    go_wp2
    go_ret
    exact ⟨rfl, rfl⟩
set_option maxHeartbeats 1000000 in
theorem specIsWord_mid (s : ByteArray) (w : World) (h1 : 1 ≤ s.size) (h2 : s.size ≤ 64) :
    Calls Tryz.prog 156 #[.string s] w fun e w' => e = .returned (.bool (allW s.data.toList)) ∧ w' = w := by
  have g1 : ¬ (s.size : Int) < 1 := by omega
  have g2 : ¬ (64 : Int) < s.size := by omega
  go_enter Tryz.func156, Tryz.ntmps156
  go_wp2
  go_loop [3] (fun i => ∃ k : Nat, k ≤ s.size ∧ i = .int .i64 k ∧ allW (s.data.toList.take k) = true) (fun i => s.size - (intOf i).toNat)
  case atStart => exact ⟨0, Nat.zero_le _, rfl, rfl⟩
  case round =>
    obtain ⟨k, hk, rfl, hall⟩ := hrel
    by_cases hlt : k < s.size
    · have hb : ((s[k].toNat : Nat) : Int) < 256 := by have := s[k].toNat_lt; omega
      cases hw : wordI (s[k].toNat : Int)
      · have HN : Hid (allW s.data.toList = false) := allW_not s k hlt hw
        have HW : Hid (wordI (s[k].toNat : Int) = false) := hw
        clear hall hw
        go_wp2_with fail
        refine (wordByte_any _ _ (by omega) hb).mono ?_
        rintro e w' ⟨rfl, rfl⟩
        rw [HW.out]
        go_wp2
        go_ret
        exact ⟨ret_bool HN.out.symm, rfl⟩
      · have HA : Hid (allW (s.data.toList.take (k + 1)) = true) := by
          show _ = _
          rw [take_snoc s k hlt, allW_snoc, hall, hw]; rfl
        have HW : Hid (wordI (s[k].toNat : Int) = true) := hw
        clear hall hw
        go_wp2_with fail
        refine (wordByte_any _ _ (by omega) hb).mono ?_
        rintro e w' ⟨rfl, rfl⟩
        rw [HW.out]
        go_wp2
        go_round
        case rel => exact ⟨k + 1, by omega, by go_num, HA.out⟩
        case measure => simp [intOf]; omega
    · have ek : s.data.toList.take k = s.data.toList := List.take_of_length_le (by simp; omega)
      rw [ek] at hall
      have HN : Hid (allW s.data.toList = true) := hall
      clear ek hall
      go_wp2
      go_ret
      exact ⟨ret_bool HN.out.symm, rfl⟩
theorem specIsWord_any (s : ByteArray) (w : World) :
    Calls Tryz.prog 156 #[.string s] w fun e w' => e = .returned (.bool (wordS s)) ∧ w' = w := by
  by_cases c : s.size < 1 ∨ 64 < s.size
  · have h : wordS s = false := by
      rcases c with c | c
      · exact wordS_short s c
      · exact wordS_long s c
    rw [h]; exact specIsWord_size s w c
  · rw [wordS_mid s (by omega) (by omega)]
    exact specIsWord_mid s w (by omega) (by omega)
set_option maxHeartbeats 1000000 in
theorem hasOnly_any (s : ByteArray) (cs : Array Value) (w : World) (hs : s.size ≤ 64) (hcs : ∀ i, i < 128 → cs[i]? = some (.bool (wordI (i : Int)))) :
    Calls Tryz.prog 218 #[.string s, .agg cs] w fun e w' => e = .returned (.bool (allW s.data.toList)) ∧ Below w.heap.size w w' := by
  have hcell : ∀ i, i < 128 → (w.alloc (.cells cs 289)).cell? ⟨w.heap.size, i, none⟩ = some (.bool (wordI (i : Int))) := fun i hi => by
    rw [World.cell?_alloc_mark]; exact hcs i hi
  have HC : Hid (∀ i, i < 128 → (w.alloc (.cells cs 289)).cell? ⟨w.heap.size, i, none⟩ = some (.bool (wordI (i : Int)))) := hcell
  clear hcell hcs
  go_enter Tryz.func218, Tryz.ntmps218
  go_wp2
  go_loop [9] (fun i => ∃ k : Nat, k ≤ s.size ∧ i = .int .i64 k ∧ allW (s.data.toList.take k) = true) (fun i => s.size - (intOf i).toNat)
  case atStart => exact ⟨0, Nat.zero_le _, rfl, rfl⟩
  case round =>
    obtain ⟨k, hk, rfl, hall⟩ := hrel
    by_cases hlt : k < s.size
    · have hb : ((s[k].toNat : Nat) : Int) < 256 := by have := s[k].toNat_lt; omega
      by_cases hbig : 128 ≤ (s[k].toNat : Int)
      · have HN : Hid (allW s.data.toList = false) := allW_not s k hlt (wordI_big _ hbig)
        clear hall
        go_wp2
        go_ret
        exact ⟨ret_bool HN.out.symm, (Below.refl _ _).alloc (Nat.le_refl _) _⟩
      · have hc := HC.out s[k].toNat (by omega)
        cases hw : wordI (s[k].toNat : Int)
        · have HN : Hid (allW s.data.toList = false) := allW_not s k hlt hw
          rw [hw] at hc
          clear hall hw
          go_wp2
          go_ret
          exact ⟨ret_bool HN.out.symm, (Below.refl _ _).alloc (Nat.le_refl _) _⟩
        · have HA : Hid (allW (s.data.toList.take (k + 1)) = true) := by
            show _ = _
            rw [take_snoc s k hlt, allW_snoc, hall, hw]; rfl
          rw [hw] at hc
          clear hall hw
          go_wp2
          go_round
          case rel => exact ⟨k + 1, by omega, by go_num, HA.out⟩
          case measure => simp [intOf]; omega
    · have ek : s.data.toList.take k = s.data.toList := List.take_of_length_le (by simp; omega)
      rw [ek] at hall
      have HN : Hid (allW s.data.toList = true) := hall
      clear ek hall
      go_wp2
      go_ret
      exact ⟨ret_bool HN.out.symm, (Below.refl _ _).alloc (Nat.le_refl _) _⟩
end Go.Proofs.YtlbagfaiiileoaaGreatDoor
/-
  A slice of bytes that the call itself grows: one byte more.
-/
namespace Go.Proofs.YtlbagfaiiileoaaGreatDoor
open Go.ChangeShapes Go.WideShapes Go.ChangeAt Go.RowKit
theorem infoByteB : (Tryz.prog.info? 5).map (fun i => (i.zero, i.size, i.bytes)) = some (some (.int .u8 0), 1, 1) := by kernel_rfl
def bytesW (l : List UInt8) : List Value := l.map fun c => Value.int .u8 (c.toNat : Int)
/-- v, a slice that is not nil, holds the bytes l in a row of the call's own, from block base on. -/
structure OwnB (w : World) (base : Nat) (v : Value) (l : List UInt8) : Prop where
  own : w.ownsRow base 5 1 v l.length (bytesW l)
  nn : v ≠ .slice none 0 0
theorem own_geB {w : World} {base : Nat} {e : TypeId} {size : Nat} {v : Value} {n : Nat} {xs : List Value} (h : w.ownsRow base e size v n xs) (q : Nat) (hq : v.ownBlock = some q) : base ≤ q := by
  obtain ⟨_, h | ⟨g, c, cur, rfl, hg, _⟩⟩ := h
  · rw [h.1] at hq; cases hq
  · simp only [Value.ownBlock, Option.some.injEq] at hq; omega
theorem OwnB.text {w : World} {base : Nat} {v : Value} {l : List UInt8} (h : OwnB w base v l) :
    (convert 159 9 v).run Tryz.prog w = .ok (.string ⟨l.toArray⟩) w := by
  have h0 := h.own
  obtain ⟨_, hn | ⟨g, c, cur, rfl, hg, _⟩⟩ := h.own
  · exact absurd hn.1 h.nn
  · refine run_convert_bytes_back w 159 9 5 ⟨g, 0, none⟩ c l Tryz.underlying159 Tryz.underlying5 Tryz.underlying9 ?_
    intro j hj
    have := h0.cellAt j (by omega)
    have e : (⟨g, 0, none⟩ : Addr).add j = ⟨g, j, none⟩ := by unfold Addr.add; split <;> simp_all
    rw [e, this]
    simp [bytesW, hj]
/-- A slice literal of bytes, just laid. -/
theorem OwnB.made (w : World) (base : Nat) (hb : base ≤ w.heap.size) (l : List UInt8) (hl : l.length ≤ 1000000) : OwnB (w.alloc (.cells (bytesW l).toArray 5)) base (.slice (some ⟨w.heap.size, 0, none⟩) l.length l.length) l where
  own := ⟨by simp [bytesW], .inr ⟨w.heap.size, l.length, (bytesW l).toArray, rfl, hb, heap_alloc_new _ _, Nat.le_refl _, by unfold maxLen; omega, by simp [bytesW], by simp [bytesW, List.take_of_length_le]⟩⟩
  nn := by simp
theorem OwnB.below {w w' : World} {base : Nat} {v : Value} {l : List UInt8} (h : OwnB w base v l) (hb : Below w.heap.size w w') : OwnB w' base v l := by
  refine ⟨?_, h.nn⟩
  obtain ⟨h1, h2⟩ := h.own
  refine ⟨h1, ?_⟩
  rcases h2 with h2 | ⟨g, c, cur, e, hg, hh, hrest⟩
  · exact .inl h2
  · exact .inr ⟨g, c, cur, e, hg, by rw [hb.block g (Array.getElem?_eq_some_iff.1 hh).1]; exact hh, hrest⟩
/-- 'out = append(out, c)', the byte laid in a block of its own right ahead. -/
theorem wpList_append_byte {ops : Array Oper} {rest : List Oper} {o : Oper} {a : Act} {Q : Exit → Act → World → Prop} (w : World) (hgd : o.guard = none) (s x : Operand)
    (ho : o.op = .call { callee := .builtin .append, args := #[s, x], argTypes := #[159, 159] }) (base : Nat) (v : Value) (l : List UInt8) (z : Int) (c : UInt8)
    (hs : a.eval s = v) (hx : a.eval x = .slice (some ⟨w.heap.size, 0, none⟩) 1 1) (hown : OwnB w base v l) (hc : (c.toNat : Int) = z) (hl : l.length ≤ 1000000) (hbase : base ≤ w.heap.size)
    (h : ∀ v' w', OwnB w' base v' (l ++ [c]) → Below base w w' → w.heap.size ≤ w'.heap.size → wpList Tryz.prog ops Q rest (a.put o.dst v') w') :
    wpList Tryz.prog ops Q (o :: rest) a (w.alloc (.cells #[.int .u8 z] 5)) := by
  obtain ⟨i0, hi, hz0, hz1, hz2⟩ := info_parts infoByteB
  refine wpList_append_own _ hgd s x 159 ho base 5 i0 (.int .u8 0) 1 1 Tryz.underlying159 hi hz0 hz1 hz2 rfl (by decide) v l.length (bytesW l) hs (hown.own.alloc _) ⟨w.heap.size, 0, none⟩ 1 1 [.int .u8 z] hx rfl ?_ ?_ ?_ ?_ ?_ ?_
  · intro j u hj
    match j, hj with
    | 0, hj => simp at hj; subst hj; simp [Addr.add]
  · intro u hu; simp at hu; subst hu; rfl
  · unfold maxLen; omega
  · omega
  · simp; omega
  · intro v' w' h1 h2 h3
    have e : bytesW (l ++ [c]) = bytesW l ++ [Value.int .u8 z] := by simp [bytesW, hc]
    refine h v' w' ⟨by rw [e, List.length_append]; exact h1, fun hv => hown.nn (h3.1 hv).1⟩ ?_ ?_
    · exact ((Below.refl base w).alloc hbase _).grown h2 (by simp; omega) (fun q hq => own_geB hown.own q hq)
    · have hb := ((Below.refl 0 w).alloc (Nat.zero_le _) (.cells #[.int .u8 z] 5)).grown h2 (Nat.zero_le _) (fun q _ => Nat.zero_le _)
      exact hb.size
end Go.Proofs.YtlbagfaiiileoaaGreatDoor
/-
  What the model's l2Plain and l2PlainText answer.
-/
namespace Go.Proofs.YtlbagfaiiileoaaGreatDoor
open Go.ChangeShapes Go.WideShapes Go.ChangeAt Go.RowKit
set_option maxHeartbeats 400000 in
theorem plain_any (c : Int) (w : World) (h0 : 0 ≤ c) (h1 : c < 256) :
    Calls Tryz.prog 260 #[.int .u8 c] w fun e w' => e = .returned (.bool (plainI c)) ∧ w' = w := by
  by_cases e9 : c = 9
  · subst e9
    go_enter Tryz.func260, Tryz.ntmps260
    go_wp2
    go_ret
    exact ⟨rfl, rfl⟩
  · have d9 : (c == 9) = false := by simpa using e9
    by_cases a1 : 32 ≤ c
    · by_cases a2 : c ≤ 126
      · have d2 : decide (c ≤ 126) = true := by simpa using a2
        have HP : Hid (plainI c = true) := by show _ = _; simp [plainI, a1, a2]
        go_enter Tryz.func260, Tryz.ntmps260
        go_wp2
        go_ret
        exact ⟨ret_bool HP.out.symm, rfl⟩
      · have d2 : decide (c ≤ 126) = false := by simpa using a2
        have HP : Hid (plainI c = false) := by show _ = _; simp [plainI, e9]; omega
        go_enter Tryz.func260, Tryz.ntmps260
        go_wp2
        go_ret
        exact ⟨ret_bool HP.out.symm, rfl⟩
    · have HP : Hid (plainI c = false) := by show _ = _; simp [plainI, e9]; omega
      go_enter Tryz.func260, Tryz.ntmps260
      go_wp2
      go_ret
      exact ⟨ret_bool HP.out.symm, rfl⟩
set_option maxHeartbeats 1000000 in
theorem plainText_any (s : ByteArray) (w : World) (hs : s.size ≤ 1048576) :
    Calls Tryz.prog 243 #[.string s] w fun e w' => e = .returned (.bool (plainL s.data.toList)) ∧ w' = w := by
  go_enter Tryz.func243, Tryz.ntmps243
  go_wp2
  go_loop [3] (fun i => ∃ k : Nat, k ≤ s.size ∧ i = .int .i64 k ∧ plainL (s.data.toList.take k) = true) (fun i => s.size - (intOf i).toNat)
  case atStart => exact ⟨0, Nat.zero_le _, rfl, rfl⟩
  case round =>
    obtain ⟨k, hk, rfl, hall⟩ := hrel
    by_cases hlt : k < s.size
    · have hb : ((s[k].toNat : Nat) : Int) < 256 := by have := s[k].toNat_lt; omega
      cases hw : plainI (s[k].toNat : Int)
      · have HN : Hid (plainL s.data.toList = false) := plainL_not s k hlt hw
        have HW : Hid (plainI (s[k].toNat : Int) = false) := hw
        clear hall hw
        go_wp2_with fail
        refine (plain_any _ _ (by omega) hb).mono ?_
        rintro e w' ⟨rfl, rfl⟩
        rw [HW.out]
        go_wp2
        go_ret
        exact ⟨ret_bool HN.out.symm, rfl⟩
      · have HA : Hid (plainL (s.data.toList.take (k + 1)) = true) := by
          show _ = _
          rw [take_snoc s k hlt, plainL_snoc, hall, hw]; rfl
        have HW : Hid (plainI (s[k].toNat : Int) = true) := hw
        clear hall hw
        go_wp2_with fail
        refine (plain_any _ _ (by omega) hb).mono ?_
        rintro e w' ⟨rfl, rfl⟩
        rw [HW.out]
        go_wp2
        go_round
        case rel => exact ⟨k + 1, by omega, by go_num, HA.out⟩
        case measure => simp [intOf]; omega
    · have ek : s.data.toList.take k = s.data.toList := List.take_of_length_le (by simp; omega)
      rw [ek] at hall
      have HN : Hid (plainL s.data.toList = true) := hall
      clear ek hall
      go_wp2
      go_ret
      exact ⟨ret_bool HN.out.symm, rfl⟩
end Go.Proofs.YtlbagfaiiileoaaGreatDoor
/-
  What the model's l1Trim answers.
-/
namespace Go.Proofs.YtlbagfaiiileoaaGreatDoor
open Go.ChangeShapes Go.WideShapes Go.ChangeAt Go.RowKit
set_option maxHeartbeats 400000 in
theorem blank_any (c : Int) (w : World) :
    Calls Tryz.prog 261 #[.int .u8 c] w fun e w' => e = .returned (.bool (blankI c)) ∧ w' = w := by
  by_cases h1 : c = 32
  · subst h1
    go_enter Tryz.func261, Tryz.ntmps261
    go_wp2
    go_ret
    exact ⟨rfl, rfl⟩
  · by_cases h2 : c = 9
    · subst h2
      go_enter Tryz.func261, Tryz.ntmps261
      go_wp2
      go_ret
      exact ⟨rfl, rfl⟩
    · have d1 : (c == 32) = false := by simpa using h1
      have d2 : (c == 9) = false := by simpa using h2
      have HB : Hid (blankI c = false) := by
        show _ = _
        unfold blankI
        rw [d1, d2]; rfl
      clear h1 h2
      go_enter Tryz.func261, Tryz.ntmps261
      go_wp2
      go_ret
      exact ⟨ret_bool HB.out.symm, rfl⟩
set_option maxHeartbeats 1000000 in
theorem l1Trim_big (s : ByteArray) (w : World) (hs : s.size ≤ 1048576) :
    Calls Tryz.prog 244 #[.string s] w fun e w' => e = .returned (.string (trimT s)) ∧ w' = w := by
  go_enter Tryz.func244, Tryz.ntmps244
  go_wp2
  go_loop [3] (fun i => ∃ k : Nat, k ≤ s.size ∧ i = .int .i64 k ∧ ∀ (j : Nat) b, j < k → s.data.toList[j]? = some b → blankI (b.toNat : Int) = true) (fun i => s.size - (intOf i).toNat)
  case atStart => exact ⟨0, Nat.zero_le _, rfl, fun j b h => absurd h (Nat.not_lt_zero _)⟩
  case round =>
    obtain ⟨k, hk, rfl, hall⟩ := hrel
    have H1 : Hid (∀ (j : Nat) b, j < k → s.data.toList[j]? = some b → blankI (b.toNat : Int) = true) := hall
    clear hall
    by_cases hgo : ∃ h : k < s.size, blankI (s[k].toNat : Int) = true
    · obtain ⟨hlt, hb⟩ := hgo
      have HB : Hid (blankI (s[k].toNat : Int) = true) := hb
      clear hb
      go_wp2_with fail
      refine (blank_any _ _).mono ?_
      rintro e w' ⟨rfl, rfl⟩
      rw [HB.out]
      go_wp2
      go_round
      case rel =>
        refine ⟨k + 1, by omega, by go_num, fun j b hj hbj => ?_⟩
        by_cases e : j = k
        · subst e
          have : s.data.toList[j]? = some s[j] := by rw [List.getElem?_eq_getElem (by simpa using hlt)]; rfl
          rw [this] at hbj
          obtain rfl := Option.some.inj hbj
          exact HB.out
        · exact H1.out j b (by omega) hbj
      case measure => simp [intOf]; omega
    · have H2 : Hid (∀ b, k < s.data.toList.length → s.data.toList[k]? = some b → blankI (b.toNat : Int) = false) := by
        intro b hlt hb
        have hlt' : k < s.size := by simpa using hlt
        have : s.data.toList[k]? = some s[k] := by rw [List.getElem?_eq_getElem hlt]; rfl
        rw [this] at hb
        obtain rfl := Option.some.inj hb
        cases hx : blankI (s[k].toNat : Int)
        · rfl
        · exact absurd ⟨hlt', hx⟩ hgo
      by_cases hlt : k < s.size
      · have HB : Hid (blankI (s[k].toNat : Int) = false) := by
          show _ = _
          cases hx : blankI (s[k].toNat : Int)
          · rfl
          · exact absurd ⟨hlt, hx⟩ hgo
        clear hgo
        go_wp2_with fail
        refine (blank_any _ _).mono ?_
        rintro e w' ⟨rfl, rfl⟩
        rw [HB.out]
        clear HB
        go_wp2
        go_loop [4] (fun i => ∃ m : Nat, k ≤ m ∧ m ≤ s.size ∧ i = .int .i64 m ∧ ∀ (j : Nat) b, m ≤ j → s.data.toList[j]? = some b → blankI (b.toNat : Int) = true) (fun i => (intOf i).toNat)
        case atStart => exact ⟨s.size, hk, Nat.le_refl _, rfl, fun j b hj hb => absurd (List.getElem?_eq_some_iff.1 hb).1 (by simp; omega)⟩
        case round =>
          obtain ⟨m, hkm, hm, rfl, hall⟩ := hrel
          have H3 : Hid (∀ (j : Nat) b, m ≤ j → s.data.toList[j]? = some b → blankI (b.toNat : Int) = true) := hall
          clear hall
          by_cases hkm2 : k < m
          · obtain ⟨n, rfl⟩ : ∃ n, m = n + 1 := ⟨m - 1, by omega⟩
            have hn : n < s.size := by omega
            cases hb : blankI (s[n].toNat : Int)
            · have HB : Hid (blankI (s[n].toNat : Int) = false) := hb
              have HT : Hid (s.extract k (n + 1) = trimT s) := by
                refine trim_extract s k (n + 1) (trim_between _ k (n + 1) hkm (by simpa using hm) H1.out H2.out H3.out ?_)
                intro b _ hbn
                have : s.data.toList[n]? = some s[n] := by rw [List.getElem?_eq_getElem (by simpa using hn)]; rfl
                rw [Nat.add_sub_cancel, this] at hbn
                obtain rfl := Option.some.inj hbn
                exact HB.out
              clear hb
              go_wp2_with fail
              refine (blank_any _ _).mono ?_
              rintro e w' ⟨rfl, rfl⟩
              rw [HB.out]
              go_wp2
              go_ret
              exact ⟨ret_str HT.out, rfl⟩
            · have HB : Hid (blankI (s[n].toNat : Int) = true) := hb
              clear hb
              go_wp2_with fail
              refine (blank_any _ _).mono ?_
              rintro e w' ⟨rfl, rfl⟩
              rw [HB.out]
              go_wp2
              go_round
              case rel =>
                refine ⟨n, by omega, by omega, by go_num, fun j b hj hbj => ?_⟩
                by_cases e : j = n
                · subst e
                  have : s.data.toList[j]? = some s[j] := by rw [List.getElem?_eq_getElem (by simpa using hn)]; rfl
                  rw [this] at hbj
                  obtain rfl := Option.some.inj hbj
                  exact HB.out
                · exact H3.out j b (by omega) hbj
              case measure => simp [intOf]
          · obtain rfl : k = m := by omega
            have HT : Hid (ByteArray.empty = trimT s) := by
              have e := trim_extract s k k (trim_between _ k k (Nat.le_refl _) (by simpa using hm) H1.out H2.out H3.out (fun b h => absurd h (Nat.lt_irrefl _)))
              have e0 : s.extract k k = ByteArray.empty := by simp
              exact e0.symm.trans e
            go_wp2
            go_ret
            exact ⟨ret_str HT.out, rfl⟩
      · clear hgo
        go_wp2
        go_loop [4] (fun i => ∃ m : Nat, k ≤ m ∧ m ≤ s.size ∧ i = .int .i64 m ∧ ∀ (j : Nat) b, m ≤ j → s.data.toList[j]? = some b → blankI (b.toNat : Int) = true) (fun i => (intOf i).toNat)
        case atStart => exact ⟨s.size, hk, Nat.le_refl _, rfl, fun j b hj hb => absurd (List.getElem?_eq_some_iff.1 hb).1 (by simp; omega)⟩
        case round =>
          obtain ⟨m, hkm, hm, rfl, hall⟩ := hrel
          have H3 : Hid (∀ (j : Nat) b, m ≤ j → s.data.toList[j]? = some b → blankI (b.toNat : Int) = true) := hall
          clear hall
          obtain rfl : k = m := by omega
          have HT : Hid (ByteArray.empty = trimT s) := by
            have e := trim_extract s k k (trim_between _ k k (Nat.le_refl _) (by simpa using hm) H1.out H2.out H3.out (fun b h => absurd h (Nat.lt_irrefl _)))
            have e0 : s.extract k k = ByteArray.empty := by simp
            exact e0.symm.trans e
          go_wp2
          go_ret
          exact ⟨ret_str HT.out, rfl⟩
theorem l1Trim_any (s : ByteArray) (w : World) (hs : s.size ≤ 1000) :
    Calls Tryz.prog 244 #[.string s] w fun e w' => e = .returned (.string (trimT s)) ∧ w' = w := l1Trim_big s w (by omega)
end Go.Proofs.YtlbagfaiiileoaaGreatDoor
/-
  What the model's l4Line and HeadersFault answer.
-/
namespace Go.Proofs.YtlbagfaiiileoaaGreatDoor
open Go.ChangeShapes Go.WideShapes Go.ChangeAt Go.RowKit
theorem hstr_ne {a b : ByteArray} (h : a ≠ b) : (a.toList == b.toList) = false := by
  rw [beq_eq_false_iff_ne]
  intro e
  rw [ByteArray.toList_eq, ByteArray.toList_eq] at e
  exact h (ByteArray.ext (Array.ext' e))
set_option maxHeartbeats 2000000 in
theorem l4Line_any (r : Hdr) (w : World) :
    Calls Tryz.prog 208 #[.agg #[.string r.name, .string r.value]] w fun e w' => e = .returned (.int .i64 (faultH r)) ∧ Below w.heap.size w w' := by
  obtain ⟨n, v⟩ := r
  simp only
  have kb : Below w.heap.size w (w.alloc (.cells #[.string n, .string v] 272)) := (Below.refl _ _).alloc (Nat.le_refl _) _
  have KB : Hid (Below w.heap.size w (w.alloc (.cells #[.string n, .string v] 272))) := kb
  clear kb
  have HW : Hid (∀ w, Calls Tryz.prog 156 #[.string n] w fun e w' => e = .returned (.bool (wordS n)) ∧ w' = w) := specIsWord_any n
  cases hw : wordS n
  · have HE : Hid (faultH ⟨n, v⟩ = 5) := by show _ = _; simp [faultH, hw]
    rw [hw] at HW
    clear hw
    go_enter Tryz.func208, Tryz.ntmps208
    go_wp2_with fail
    refine (HW.out _).mono ?_
    rintro e w1 ⟨rfl, rfl⟩
    go_wp2_with fail
    go_ret
    exact ⟨ret_int HE.out.symm, KB.out⟩
  rw [hw] at HW
  by_cases hbig : 200 < v.size
  · have HE : Hid (faultH ⟨n, v⟩ = 2) := by show _ = _; simp only [faultH, hw]; rw [if_neg (by simp), if_pos hbig]
    have g : (200 : Int) < v.size := by omega
    clear hw
    go_enter Tryz.func208, Tryz.ntmps208
    go_wp2_with fail
    refine (HW.out _).mono ?_
    rintro e w1 ⟨rfl, rfl⟩
    go_wp2_with fail
    go_ret
    exact ⟨ret_int HE.out.symm, KB.out⟩
  have g : ¬ (200 : Int) < v.size := by omega
  have HP : Hid (∀ w, Calls Tryz.prog 243 #[.string v] w fun e w' => e = .returned (.bool (plainL v.data.toList)) ∧ w' = w) := fun w => plainText_any v w (by omega)
  have HT : Hid (∀ w, Calls Tryz.prog 244 #[.string v] w fun e w' => e = .returned (.string (trimT v)) ∧ w' = w) := fun w => l1Trim_any v w (by omega)
  cases hp : plainL v.data.toList
  · have HE : Hid (faultH ⟨n, v⟩ = 5) := by show _ = _; simp only [faultH, hw]; rw [if_neg (by simp), if_neg hbig, if_pos hp]
    rw [hp] at HP
    clear hw hp hbig
    go_enter Tryz.func208, Tryz.ntmps208
    go_wp2_with fail
    refine (HW.out _).mono ?_
    rintro e w1 ⟨rfl, rfl⟩
    go_wp2_with fail
    refine (HP.out _).mono ?_
    rintro e w1 ⟨rfl, rfl⟩
    go_wp2_with fail
    go_ret
    exact ⟨ret_int HE.out.symm, KB.out⟩
  rw [hp] at HP
  by_cases ht : trimT v = v
  · have HE : Hid (faultH ⟨n, v⟩ = 0) := by show _ = _; simp only [faultH, hw]; rw [if_neg (by simp), if_neg hbig, if_neg (by simp [hp]), if_pos ht]
    rw [ht] at HT
    clear hw hp hbig ht
    go_enter Tryz.func208, Tryz.ntmps208
    go_wp2_with fail
    refine (HW.out _).mono ?_
    rintro e w1 ⟨rfl, rfl⟩
    go_wp2_with fail
    refine (HP.out _).mono ?_
    rintro e w1 ⟨rfl, rfl⟩
    go_wp2_with fail
    refine (HT.out _).mono ?_
    rintro e w1 ⟨rfl, rfl⟩
    go_wp2_with fail
    go_ret
    exact ⟨ret_int HE.out.symm, KB.out⟩
  · have HE : Hid (faultH ⟨n, v⟩ = 5) := by show _ = _; simp only [faultH, hw]; rw [if_neg (by simp), if_neg hbig, if_neg (by simp [hp]), if_neg ht]
    have hq := hstr_ne ht
    generalize trimT v = t at *
    clear hw hp hbig ht
    go_enter Tryz.func208, Tryz.ntmps208
    go_wp2_with fail
    refine (HW.out _).mono ?_
    rintro e w1 ⟨rfl, rfl⟩
    go_wp2_with fail
    refine (HP.out _).mono ?_
    rintro e w1 ⟨rfl, rfl⟩
    go_wp2_with fail
    refine (HT.out _).mono ?_
    rintro e w1 ⟨rfl, rfl⟩
    go_wp2_with fail
    go_ret
    exact ⟨ret_int HE.out.symm, KB.out⟩
set_option maxRecDepth 100000 in
set_option maxHeartbeats 4000000 in
theorem specHFault_any (w : World) (a : Option Addr) (cap : Nat) (l : List Hdr) (hl : l.length ≤ 1048576) (hi : HdsIn w a l) :
    Calls Tryz.prog 157 #[.slice a l.length cap] w fun e w' => e = .returned (.int .i64 (headsC l)) ∧ Below w.heap.size w w' := by
  by_cases h20 : 20 < l.length
  · have HE : Hid (headsC l = 2) := headsC_many h20
    have g : (20 : Int) < (l.length : Int) := by omega
    clear hi
    generalize l.length = n at *
    go_enter Tryz.func157, Tryz.ntmps157
    go_wp2_with fail
    go_ret
    exact ⟨ret_int HE.out.symm, Below.refl _ _⟩
  have HC : Hid (headsC l = faultHL l) := headsC_few h20
  have HI : Hid (HdsIn w a l) := hi
  clear hi
  generalize hn : l.length = n at *
  have HN : Hid (l.length = n) := hn
  clear hn
  have g : ¬ (20 : Int) < (n : Int) := by omega
  go_enter Tryz.func157, Tryz.ntmps157
  go_wp2_with fail
  go_loopw [3] (fun i wr => ∃ k : Nat, k ≤ n ∧ i = .int .i64 k ∧ faultHL l = faultHL (l.drop k) ∧ Below w.heap.size w wr) (fun i _ => n - (intOf i).toNat)
  case atStart => exact ⟨0, Nat.zero_le _, rfl, rfl, Below.refl _ _⟩
  case round =>
    obtain ⟨k, hk, rfl, hf, hb⟩ := hrel
    have HF : Hid (faultHL l = faultHL (l.drop k)) := hf
    clear hf
    by_cases hlt : k < n
    · obtain ⟨r, hr⟩ : ∃ r, l[k]? = some r := ⟨l[k]'(by have := HN.out; omega), List.getElem?_eq_getElem _⟩
      rcases HI.out with h | ⟨b, off, rfl, hat⟩
      · subst h; simp at hr
      obtain ⟨p1, p3⟩ := (hat.keep hb) k r hr
      have HD : Hid (l.drop k = r :: l.drop (k + 1)) := drop_hdr l k r hr
      have gk : (k : Int) < n := by omega
      have SF : Hid (∀ w, Calls Tryz.prog 208 #[.agg #[.string r.name, .string r.value]] w fun e w' => e = .returned (.int .i64 (faultH r)) ∧ Below w.heap.size w w') := l4Line_any r
      clear hr hat HI
      by_cases hfr : faultH r = 0
      · have HX : Hid (faultHL l = faultHL (l.drop (k + 1))) := by show _ = _; rw [HF.out, HD.out, faultHL_ok hfr]
        rw [hfr] at SF
        clear hfr HD HF
        obtain ⟨rn, rv⟩ := r
        simp only at p1 p3 SF
        go_wp2_with fail
        refine (SF.out _).mono ?_
        rintro e w2 ⟨rfl, hb2⟩
        have hbb := hb.trans (hb2.mono hb.size)
        clear hb2 hb
        go_wp2_with fail
        go_roundw
        case rel => exact ⟨k + 1, by omega, by go_num, HX.out, hbb⟩
        case measure => simp [intOf]; omega
      · have HX : Hid (headsC l = faultH r) := by show _ = _; rw [HC.out, HF.out, HD.out, faultHL_bad hfr]
        clear HD HF HC
        obtain ⟨rn, rv⟩ := r
        simp only at p1 p3 SF
        generalize faultH ⟨rn, rv⟩ = fr at *
        go_wp2_with fail
        refine (SF.out _).mono ?_
        rintro e w2 ⟨rfl, hb2⟩
        have hbb := hb.trans (hb2.mono hb.size)
        clear hb2 hb
        go_wp2_with fail
        go_ret
        exact ⟨ret_int HX.out.symm, hbb⟩
    · have HX : Hid (headsC l = 0) := by
        show _ = _
        rw [HC.out, HF.out, List.drop_of_length_le (by have := HN.out; omega)]
        rfl
      clear HF HC
      go_wp2_with fail
      go_ret
      exact ⟨ret_int HX.out.symm, hb⟩
end Go.Proofs.YtlbagfaiiileoaaGreatDoor
/-
  What isPlain and allPlain answer.
-/
namespace Go.Proofs.YtlbagfaiiileoaaGreatDoor
open Go.ChangeShapes Go.WideShapes Go.ChangeAt Go.RowKit
set_option maxHeartbeats 400000 in
theorem iplain_any (c : Int) (w : World) (h0 : 0 ≤ c) (h1 : c < 256) :
    Calls Tryz.prog 262 #[.int .u8 c] w fun e w' => e = .returned (.bool (plainI c)) ∧ w' = w := by
  by_cases e9 : c = 9
  · subst e9
    go_enter Tryz.func262, Tryz.ntmps262
    go_wp2
    go_ret
    exact ⟨rfl, rfl⟩
  · have d9 : (c == 9) = false := by simpa using e9
    by_cases a1 : 32 ≤ c
    · by_cases a2 : c ≤ 126
      · have d2 : decide (c ≤ 126) = true := by simpa using a2
        have HP : Hid (plainI c = true) := by show _ = _; simp [plainI, a1, a2]
        go_enter Tryz.func262, Tryz.ntmps262
        go_wp2
        go_ret
        exact ⟨ret_bool HP.out.symm, rfl⟩
      · have d2 : decide (c ≤ 126) = false := by simpa using a2
        have HP : Hid (plainI c = false) := by show _ = _; simp [plainI, e9]; omega
        go_enter Tryz.func262, Tryz.ntmps262
        go_wp2
        go_ret
        exact ⟨ret_bool HP.out.symm, rfl⟩
    · have HP : Hid (plainI c = false) := by show _ = _; simp [plainI, e9]; omega
      go_enter Tryz.func262, Tryz.ntmps262
      go_wp2
      go_ret
      exact ⟨ret_bool HP.out.symm, rfl⟩
set_option maxHeartbeats 1000000 in
theorem allPlain_any (s : ByteArray) (w : World) (hs : s.size ≤ 1048576) :
    Calls Tryz.prog 250 #[.string s] w fun e w' => e = .returned (.bool (plainL s.data.toList)) ∧ w' = w := by
  go_enter Tryz.func250, Tryz.ntmps250
  go_wp2
  go_loop [6] (fun i => ∃ k : Nat, k ≤ s.size ∧ i = .int .i64 k ∧ plainL (s.data.toList.take k) = true) (fun i => s.size - (intOf i).toNat)
  case atStart => exact ⟨0, Nat.zero_le _, rfl, rfl⟩
  case round =>
    obtain ⟨k, hk, rfl, hall⟩ := hrel
    by_cases hlt : k < s.size
    · have hb : ((s[k].toNat : Nat) : Int) < 256 := by have := s[k].toNat_lt; omega
      cases hw : plainI (s[k].toNat : Int)
      · have HN : Hid (plainL s.data.toList = false) := plainL_not s k hlt hw
        have HW : Hid (plainI (s[k].toNat : Int) = false) := hw
        clear hall hw
        go_wp2_with fail
        refine (iplain_any _ _ (by omega) hb).mono ?_
        rintro e w' ⟨rfl, rfl⟩
        rw [HW.out]
        go_wp2
        go_ret
        exact ⟨ret_bool HN.out.symm, rfl⟩
      · have HA : Hid (plainL (s.data.toList.take (k + 1)) = true) := by
          show _ = _
          rw [take_snoc s k hlt, plainL_snoc, hall, hw]; rfl
        have HW : Hid (plainI (s[k].toNat : Int) = true) := hw
        clear hall hw
        go_wp2_with fail
        refine (iplain_any _ _ (by omega) hb).mono ?_
        rintro e w' ⟨rfl, rfl⟩
        rw [HW.out]
        go_wp2
        go_round
        case rel => exact ⟨k + 1, by omega, by go_num, HA.out⟩
        case measure => simp [intOf]; omega
    · have ek : s.data.toList.take k = s.data.toList := List.take_of_length_le (by simp; omega)
      rw [ek] at hall
      have HN : Hid (plainL s.data.toList = true) := hall
      clear ek hall
      go_wp2
      go_ret
      exact ⟨ret_bool HN.out.symm, rfl⟩
end Go.Proofs.YtlbagfaiiileoaaGreatDoor
/-
  What IsWord answers where the table lies in memory as the program lays it.
-/
namespace Go.Proofs.YtlbagfaiiileoaaGreatDoor
open Go.ChangeShapes Go.WideShapes Go.ChangeAt Go.RowKit
set_option maxHeartbeats 400000 in
theorem implIsWord_size (s : ByteArray) (w : World) (h : s.size < 1 ∨ 64 < s.size) :
    Calls Tryz.prog 168 #[.string s] w fun e w' => e = .returned (.bool false) ∧ Below w.heap.size w w' := by
  rcases h with h | h
  · have hh : (s.size : Int) < 1 := by omega
    go_enter Tryz.func168, Tryz.ntmps168
    go_wp2
    go_ret
    exact ⟨rfl, Below.refl _ _⟩
  · have hh : (64 : Int) < s.size := by omega
    have h1 : (1 : Int) ≤ s.size := by omega
    have d : decide ((s.size : Int) ≤ 64) = false := by simp; omega
    go_enter Tryz.func168, Tryz.ntmps168
    go_wp2
    go_ret
    exact ⟨rfl, Below.refl _ _⟩
/-- A whole array loaded behind a guard that lets it. -/
theorem wpList_load_row_g {P : Program} {ops : Array Oper} {rest : List Oper} {o : Oper} {a : Act} {w : World} {Q : Exit → Act → World → Prop} (hw : Region.wanted o (yielded ops a.tmps) = true) (ty : TypeId) (x : Operand) (ho : o.op = .load ty x)
    (g : Nat) (hx : a.eval x = .pointer (some ⟨g, 0, none⟩)) (t : TypeId) (cs : Array Value) (fr : Nat × Nat) (d : TypeDesc) (hg : w.heap[g]? = some (.cells cs t fr))
    (hu : P.underlying ty = some d) (hd : (match d with | .struct _ | .array _ _ => true | _ => false) = true) (hi : (P.info? ty).map (·.size) = some cs.size)
    (h : wpList P ops Q rest (a.put o.dst (.agg cs)) w) : wpList P ops Q (o :: rest) a w :=
  wpList_step fun _ hK => by rw [if_pos hw]; exact wp_load_row ty x ho g hx t cs fr d hg hu hd hi (hK _ _ h)
theorem infoSet : (Tryz.prog.info? 289).map (·.size) = some 128 := by kernel_rfl
set_option maxHeartbeats 400000 in
theorem implIsWord_mid (s : ByteArray) (w : World) (cs : Array Value) (tt : TypeId) (fr : Nat × Nat) (h1 : 1 ≤ s.size) (h2 : s.size ≤ 64) (hg : w.heap[0]? = some (.cells cs tt fr)) (hsz : cs.size = 128) (hcs : ∀ i, i < 128 → cs[i]? = some (.bool (wordI (i : Int)))) :
    Calls Tryz.prog 168 #[.string s] w fun e w' => e = .returned (.bool (allW s.data.toList)) ∧ Below w.heap.size w w' := by
  have g1 : (1 : Int) ≤ s.size := by omega
  have d : decide ((s.size : Int) ≤ 64) = true := by simp; omega
  have HG : Hid (w.heap[0]? = some (.cells cs tt fr)) := hg
  have HI : Hid ((Tryz.prog.info? 289).map (·.size) = some cs.size) := by
    show _ = _
    rw [infoSet, hsz]
  have HC : Hid (∀ i, i < 128 → cs[i]? = some (.bool (wordI (i : Int)))) := hcs
  clear hcs hg hsz
  go_enter Tryz.func168, Tryz.ntmps168
  go_wp2_with (refine wpList_load_row_g (by rfl) 289 (.global 0) rfl 0 rfl tt cs fr _ HG.out Tryz.underlying289 rfl HI.out ?_)
  refine (hasOnly_any s cs _ h2 HC.out).mono ?_
  rintro e w1 ⟨rfl, hb⟩
  go_wp2
  go_ret
  exact ⟨rfl, hb⟩
theorem implIsWord_any (s : ByteArray) (w : World) (cs : Array Value) (tt : TypeId) (fr : Nat × Nat) (hg : w.heap[0]? = some (.cells cs tt fr)) (hsz : cs.size = 128) (hcs : ∀ i, i < 128 → cs[i]? = some (.bool (wordI (i : Int)))) :
    Calls Tryz.prog 168 #[.string s] w fun e w' => e = .returned (.bool (wordS s)) ∧ Below w.heap.size w w' := by
  by_cases c : s.size < 1 ∨ 64 < s.size
  · have h : wordS s = false := by
      rcases c with c | c
      · exact wordS_short s c
      · exact wordS_long s c
    rw [h]; exact implIsWord_size s w c
  · rw [wordS_mid s (by omega) (by omega)]
    exact implIsWord_mid s w cs tt fr (by omega) (by omega) hg hsz hcs
end Go.Proofs.YtlbagfaiiileoaaGreatDoor
/-
  The law of IsWord out of contracts; what the row's list gives.
-/
namespace Go.Proofs.YtlbagfaiiileoaaGreatDoor
open Go.ChangeShapes Go.WideShapes Go.ChangeAt Go.RowKit
/-- An array of bools that reads as a table holds the table, cell for cell. -/
theorem cells_of_bools {H : Type} {enc : TypeId × Value → H} {P : Program} {w : World} {base : Nat} {sp : Nat → Bool} {held : Bool} {fuel : Nat} {t e : TypeId} {n : Nat} {cs : List Value} {zs : List Bool} {p : List MemPlace}
    (ht : P.underlying t = some (.array n e)) (he : P.underlying e = some .bool) (hce : P.cellsOf e = 1) (hct : P.cellsOf t = n)
    (h : DataW.trod enc P w base sp held fuel t cs = some (.agg (zs.map fun z => .lit (.bool z)), p)) : cs = zs.map fun z => Value.bool z := by
  cases fuel with
  | zero => simp [DataW.trod] at h
  | succ fuel =>
    simp only [DataW.trod, ht, hce, hct, Nat.mul_one] at h
    split at h
    · rename_i hl
      obtain ⟨xs, hm, hx⟩ := Option.map_eq_some_iff.1 h
      have hxs : xs.map (·.1) = zs.map fun z => (DataW.lit (.bool z) : DataW H) := by
        have := congrArg Prod.fst hx
        simpa using this
      have hxl : xs.length = n := by simpa using Lib.mapM_length hm
      have hzl : zs.length = n := by
        have := congrArg List.length hxs
        simp at this
        omega
      apply List.ext_getElem?
      intro i
      by_cases hi : i < n
      · obtain ⟨b, hb, hf⟩ := Lib.mapM_at hm i i (by simp [hi])
        obtain ⟨z, hc, rfl⟩ := DataW.trod_bool he hf
        have h1 : cs[i]? = some (.bool z) := by
          have := congrArg (·[0]?) hc
          simpa [List.getElem?_take, List.getElem?_drop] using this
        have h2 : (xs.map (·.1))[i]? = some (DataW.lit (.bool z) : DataW H) := by simp [hb]
        rw [hxs] at h2
        simp only [List.getElem?_map, Option.map_eq_some_iff, DataW.lit.injEq, Lit.bool.injEq] at h2
        obtain ⟨z', hz', rfl⟩ := h2
        simp [h1, hz']
      · rw [List.getElem?_eq_none (by omega), List.getElem?_eq_none (by simp; omega)]
    · cases h
theorem setCells : Tryz.prog.cellsOf 289 = 128 := by kernel_rfl
theorem boolCells : Tryz.prog.cellsOf 4 = 1 := by kernel_rfl
theorem setNamed : Tryz.prog.globalNamed "loop.example/g00665/impl.wordBytes" = some 0 := by kernel_rfl
theorem setType : (Tryz.prog.globals[0]?).map (·.type) = some 289 := by kernel_rfl
theorem laidTab {H : Type} : (Rows.laid_loop_example_g00665_impl_wordBytes : DataW H) = .agg (wordTab.map fun z => .lit (.bool z)) := by kernel_rfl
/-- The table lies in memory. -/
def SetIs (w : World) : Prop := ∃ cs tt fr, w.heap[0]? = some (.cells cs tt fr) ∧ cs.size = 128 ∧ ∀ i, i < 128 → cs[i]? = some (.bool (wordI (i : Int)))
theorem setIs_of {w : World} {rest : List (String × DataW Unit)} (h : laidMet Tryz.prog (("loop.example/g00665/impl.wordBytes", Rows.laid_loop_example_g00665_impl_wordBytes) :: rest) w) : SetIs w := by
  obtain ⟨ps, ⟨g', t', cs, fuel, p, q, hg', ht', hvar, hd, _, _⟩, _⟩ := h
  obtain rfl := Option.some.inj (setNamed.symm.trans hg')
  obtain rfl := Option.some.inj (setType.symm.trans ht')
  rw [laidTab] at hd
  have hcs := cells_of_bools Tryz.underlying289 Tryz.underlying4 boolCells setCells hd
  unfold World.var? at hvar
  rw [setNamed] at hvar
  simp only [Option.bind_some] at hvar
  cases hb : w.heap[0]? with
  | none => rw [hb] at hvar; cases hvar
  | some o =>
    rw [hb] at hvar
    cases o with
    | cells c tt fr =>
      simp only [Option.some.injEq] at hvar
      subst hvar
      have hl : c.toList.length = 128 := by rw [hcs, List.length_map]; exact wordTab_len
      refine ⟨c, tt, fr, hb, by simpa using hl, fun i hi => ?_⟩
      rw [← Array.getElem?_toList, hcs, List.getElem?_map]
      have hi2 : i < wordTab.length := by rw [wordTab_len]; exact hi
      rw [List.getElem?_eq_getElem hi2]
      simp [wordI, hi2]
    | map _ _ => cases hvar
    | _ => cases hvar
theorem SetIs.below {w w' : World} (h : SetIs w) (hb : Below w.heap.size w w') : SetIs w' := by
  obtain ⟨cs, tt, fr, hg, h1, h2⟩ := h
  refine ⟨cs, tt, fr, ?_, h1, h2⟩
  rw [hb.block 0 (Array.getElem?_eq_some_iff.1 hg).1, hg]
theorem implIsWord_set (s : ByteArray) (w : World) (h : SetIs w) :
    Calls Tryz.prog 168 #[.string s] w fun e w' => e = .returned (.bool (wordS s)) ∧ Below w.heap.size w w' := by
  obtain ⟨cs, tt, fr, hg, h1, h2⟩ := h
  exact implIsWord_any s w cs tt fr hg h1 h2
end Go.Proofs.YtlbagfaiiileoaaGreatDoor
/-
  What TrimText and its model answer; the law of TrimText out of them.
-/
namespace Go.Proofs.YtlbagfaiiileoaaGreatDoor
open Go.ChangeShapes Go.WideShapes Go.ChangeAt Go.RowKit
theorem trimT_size (s : ByteArray) : (trimT s).size ≤ s.size := by
  have h : (Lib.trimS s.data.toList [32, 9]).length ≤ s.data.toList.length := by
    unfold Lib.trimS Lib.trimLeftS Lib.trimRightS
    refine Nat.le_trans (List.dropWhile_sublist _).length_le ?_
    rw [List.length_reverse]
    refine Nat.le_trans (List.dropWhile_sublist _).length_le ?_
    rw [List.length_reverse]
    exact Nat.le_refl _
  have e : (trimT s).size = (Lib.trimS s.data.toList [32, 9]).length := by simp [trimT, ByteArray.size]
  rw [e]
  simpa using h
theorem trim_lib (s : ByteArray) (w : World) (hs : s.size ≤ 1000) :
    Calls Tryz.prog 251 #[.string s, .string ⟨#[32, 9]⟩] w fun e w' => e = .returned (.string (trimT s)) ∧ Below w.heap.size w w' :=
  Any.strings_Trim_laid Tryz.lays160 (by kernel_rfl) s ⟨#[32, 9]⟩ w (by omega) (by decide) (ascii_of_all (by decide))
theorem trim_big (s : ByteArray) (w : World) (hs : s.size ≤ 1048576) :
    Calls Tryz.prog 251 #[.string s, .string ⟨#[32, 9]⟩] w fun e w' => e = .returned (.string (trimT s)) ∧ Below w.heap.size w w' :=
  Any.strings_Trim_laid Tryz.lays160 (by kernel_rfl) s ⟨#[32, 9]⟩ w (by omega) (by decide) (ascii_of_all (by decide))
theorem clone_lib (s : ByteArray) (w : World) (hs : s.size ≤ 1000) :
    Calls Tryz.prog 199 #[.string s] w fun e w' => e = .returned (.string s) ∧ Below w.heap.size w w' :=
  Any.stringslite_Clone Tryz.laysM316 s w (by omega)
set_option maxHeartbeats 400000 in
theorem clone_any (s : ByteArray) (w : World) (hs : s.size ≤ 1000) :
    Calls Tryz.prog 135 #[.string s] w fun e w' => e = .returned (.string s) ∧ Below w.heap.size w w' := by
  go_enter Tryz.func135, Tryz.ntmps135
  go_wp2_with fail
  refine (clone_lib s _ hs).mono ?_
  rintro e w1 ⟨rfl, hb⟩
  go_wp2
  go_ret
  exact ⟨rfl, hb⟩
end Go.Proofs.YtlbagfaiiileoaaGreatDoor
/-
  What lineFault and HeadersFault answer.
-/
namespace Go.Proofs.YtlbagfaiiileoaaGreatDoor
open Go.ChangeShapes Go.WideShapes Go.ChangeAt Go.RowKit Go.Sort
theorem hdr_room {w w1 : World} {n v : ByteArray} {t : TypeId} (hb : Below (w.alloc (.cells #[.string n, .string v] t)).heap.size (w.alloc (.cells #[.string n, .string v] t)) w1) :
    w.heap.size < w1.heap.size ∧ w1.cell? ⟨w.heap.size, 0, none⟩ = some (.string n) ∧ w1.cell? ⟨w.heap.size, 1, none⟩ = some (.string v) ∧ Below w.heap.size w w1 := by
  rw [World.size_alloc] at hb
  have hz := hb.size
  simp only [World.size_alloc] at hz
  exact ⟨hz, by rw [hb.cell (p := ⟨w.heap.size, 0, none⟩) (Nat.lt_succ_self _)]; simp, by rw [hb.cell (p := ⟨w.heap.size, 1, none⟩) (Nat.lt_succ_self _)]; simp, ((Below.refl _ _).alloc (Nat.le_refl _) _).trans (hb.mono (Nat.le_succ _))⟩
theorem hkeep {W W' : World} (hb : Below W.heap.size W W') {p : Addr} {v : Value} (h : W.cell? p = some v) : W'.cell? p = some v := by
  rw [hb.cell (block_lt_of_cell h)]; exact h
set_option maxHeartbeats 2000000 in
theorem implLine_any (r : Hdr) (w : World) (hset : SetIs w) :
    Calls Tryz.prog 220 #[.agg #[.string r.name, .string r.value]] w fun e w' => e = .returned (.int .i64 (faultH r)) ∧ Below w.heap.size w w' := by
  obtain ⟨n, v⟩ := r
  simp only
  have HW : Hid (Calls Tryz.prog 168 #[.string n] (w.alloc (.cells #[.string n, .string v] 272)) fun e w' => e = .returned (.bool (wordS n)) ∧ Below (w.alloc (.cells #[.string n, .string v] 272)).heap.size (w.alloc (.cells #[.string n, .string v] 272)) w') := implIsWord_set n _ (hset.below ((Below.refl _ _).alloc (Nat.le_refl _) _))
  clear hset
  cases hw : wordS n
  · have HE : Hid (faultH ⟨n, v⟩ = 5) := by show _ = _; simp [faultH, hw]
    rw [hw] at HW
    clear hw
    go_enter Tryz.func220, Tryz.ntmps220
    go_wp2_with fail
    refine HW.out.mono ?_
    rintro e w1 ⟨rfl, hb1⟩
    obtain ⟨hz1, p0, p1, kb⟩ := hdr_room hb1
    have KB : Hid (Below w.heap.size w w1) := kb
    clear hb1 kb
    go_wp2_with fail
    go_ret
    exact ⟨ret_int HE.out.symm, KB.out⟩
  rw [hw] at HW
  by_cases hbig : 200 < v.size
  · have HE : Hid (faultH ⟨n, v⟩ = 2) := by show _ = _; simp only [faultH, hw]; rw [if_neg (by simp), if_pos hbig]
    have g : (200 : Int) < v.size := by omega
    clear hw
    go_enter Tryz.func220, Tryz.ntmps220
    go_wp2_with fail
    refine HW.out.mono ?_
    rintro e w1 ⟨rfl, hb1⟩
    obtain ⟨hz1, p0, p1, kb⟩ := hdr_room hb1
    have KB : Hid (Below w.heap.size w w1) := kb
    clear hb1 kb
    go_wp2_with fail
    go_ret
    exact ⟨ret_int HE.out.symm, KB.out⟩
  have g : ¬ (200 : Int) < v.size := by omega
  have HP : Hid (∀ w, Calls Tryz.prog 250 #[.string v] w fun e w' => e = .returned (.bool (plainL v.data.toList)) ∧ Below w.heap.size w w') := fun w => (allPlain_any v w (by omega)).mono fun _ _ ⟨h1, h2⟩ => ⟨h1, h2 ▸ Below.refl _ _⟩
  have HT : Hid (∀ w, Calls Tryz.prog 251 #[.string v, .string ⟨#[32, 9]⟩] w fun e w' => e = .returned (.string (trimT v)) ∧ Below w.heap.size w w') := fun w => trim_big v w (by omega)
  cases hp : plainL v.data.toList
  · have HE : Hid (faultH ⟨n, v⟩ = 5) := by show _ = _; simp only [faultH, hw]; rw [if_neg (by simp), if_neg hbig, if_pos hp]
    rw [hp] at HP
    clear hw hp hbig
    go_enter Tryz.func220, Tryz.ntmps220
    go_wp2_with fail
    refine HW.out.mono ?_
    rintro e w1 ⟨rfl, hb1⟩
    obtain ⟨hz1, p0, p1, kb⟩ := hdr_room hb1
    have KB : Hid (Below w.heap.size w w1) := kb
    clear hb1 kb
    go_wp2_with fail
    have q1 := cell_regrown p1
    have cP : ∀ d' os, Calls Tryz.prog 250 #[.string v] (grow (redrawn w1 d') os) fun e w'' => e = .returned (.bool false) ∧ ∃ p : Regrown, w'' = grow (redrawn w1 p.d) p.os := fun d' os => Calls.regrown_of (HP.out _)
    refine wp_region_quiet_below (by kernel_rfl) (by kernel_rfl) ?_
    repeat (go_big_quiet_step (first | (go_at_call 250; exact cP _ _)))
    refine wpQuiet_nil ?_
    intro W2 hW2
    have hbW2 : Below w1.heap.size w1 W2 := by
      obtain ⟨⟨d, os⟩, rfl⟩ := hW2
      exact below_regrown w1 d os
    have KB2 : Hid (Below w.heap.size w W2) := KB.out.trans (hbW2.mono KB.out.size)
    clear hW2 hbW2 cP q1 p0 p1 KB
    go_wp2_with fail
    go_ret
    exact ⟨ret_int HE.out.symm, KB2.out⟩
  rw [hp] at HP
  by_cases ht : trimT v = v
  · have HE : Hid (faultH ⟨n, v⟩ = 0) := by show _ = _; simp only [faultH, hw]; rw [if_neg (by simp), if_neg hbig, if_neg (by simp [hp]), if_pos ht]
    rw [ht] at HT
    clear hw hp hbig ht
    go_enter Tryz.func220, Tryz.ntmps220
    go_wp2_with fail
    refine HW.out.mono ?_
    rintro e w1 ⟨rfl, hb1⟩
    obtain ⟨hz1, p0, p1, kb⟩ := hdr_room hb1
    have KB : Hid (Below w.heap.size w w1) := kb
    clear hb1 kb
    go_wp2_with fail
    have q1 := cell_regrown p1
    have cP : ∀ d' os, Calls Tryz.prog 250 #[.string v] (grow (redrawn w1 d') os) fun e w'' => e = .returned (.bool true) ∧ ∃ p : Regrown, w'' = grow (redrawn w1 p.d) p.os := fun d' os => Calls.regrown_of (HP.out _)
    have cT : ∀ d' os, Calls Tryz.prog 251 #[.string v, .string ⟨#[32, 9]⟩] (grow (redrawn w1 d') os) fun e w'' => e = .returned (.string v) ∧ ∃ p : Regrown, w'' = grow (redrawn w1 p.d) p.os := fun d' os => Calls.regrown_of (HT.out _)
    refine wp_region_quiet_below (by kernel_rfl) (by kernel_rfl) ?_
    repeat (go_big_quiet_step (first | (go_at_call 250; exact cP _ _) | (go_at_call 251; exact cT _ _)))
    refine wpQuiet_nil ?_
    intro W2 hW2
    have hbW2 : Below w1.heap.size w1 W2 := by
      obtain ⟨⟨d, os⟩, rfl⟩ := hW2
      exact below_regrown w1 d os
    have KB2 : Hid (Below w.heap.size w W2) := KB.out.trans (hbW2.mono KB.out.size)
    clear hW2 hbW2 cP cT q1 p0 p1 KB
    go_wp2_with fail
    go_ret
    exact ⟨ret_int HE.out.symm, KB2.out⟩
  · have HE : Hid (faultH ⟨n, v⟩ = 5) := by show _ = _; simp only [faultH, hw]; rw [if_neg (by simp), if_neg hbig, if_neg (by simp [hp]), if_neg ht]
    have hq := hstr_ne ht
    generalize trimT v = t at *
    clear hw hp hbig ht
    go_enter Tryz.func220, Tryz.ntmps220
    go_wp2_with fail
    refine HW.out.mono ?_
    rintro e w1 ⟨rfl, hb1⟩
    obtain ⟨hz1, p0, p1, kb⟩ := hdr_room hb1
    have KB : Hid (Below w.heap.size w w1) := kb
    clear hb1 kb
    go_wp2_with fail
    have q1 := cell_regrown p1
    have cP : ∀ d' os, Calls Tryz.prog 250 #[.string v] (grow (redrawn w1 d') os) fun e w'' => e = .returned (.bool true) ∧ ∃ p : Regrown, w'' = grow (redrawn w1 p.d) p.os := fun d' os => Calls.regrown_of (HP.out _)
    have cT : ∀ d' os, Calls Tryz.prog 251 #[.string v, .string ⟨#[32, 9]⟩] (grow (redrawn w1 d') os) fun e w'' => e = .returned (.string t) ∧ ∃ p : Regrown, w'' = grow (redrawn w1 p.d) p.os := fun d' os => Calls.regrown_of (HT.out _)
    refine wp_region_quiet_below (by kernel_rfl) (by kernel_rfl) ?_
    repeat (go_big_quiet_step (first | (go_at_call 250; exact cP _ _) | (go_at_call 251; exact cT _ _)))
    refine wpQuiet_nil ?_
    intro W2 hW2
    have hbW2 : Below w1.heap.size w1 W2 := by
      obtain ⟨⟨d, os⟩, rfl⟩ := hW2
      exact below_regrown w1 d os
    have KB2 : Hid (Below w.heap.size w W2) := KB.out.trans (hbW2.mono KB.out.size)
    clear hW2 hbW2 cP cT q1 p0 p1 KB
    go_wp2_with fail
    go_ret
    exact ⟨ret_int HE.out.symm, KB2.out⟩
set_option maxRecDepth 100000 in
set_option maxHeartbeats 4000000 in
theorem implHFault_any (w : World) (a : Option Addr) (cap : Nat) (l : List Hdr) (hl : l.length ≤ 1048576) (hset : SetIs w) (hi : HdsIn w a l) :
    Calls Tryz.prog 173 #[.slice a l.length cap] w fun e w' => e = .returned (.int .i64 (headsC l)) ∧ Below w.heap.size w w' := by
  by_cases h20 : 20 < l.length
  · have HE : Hid (headsC l = 2) := headsC_many h20
    have g : (20 : Int) < (l.length : Int) := by omega
    clear hi hset
    generalize l.length = n at *
    go_enter Tryz.func173, Tryz.ntmps173
    go_wp2_with fail
    go_ret
    exact ⟨ret_int HE.out.symm, Below.refl _ _⟩
  have HC : Hid (headsC l = faultHL l) := headsC_few h20
  have HI : Hid (HdsIn w a l) := hi
  have HS : Hid (SetIs w) := hset
  clear hi hset
  generalize hn : l.length = n at *
  have HN : Hid (l.length = n) := hn
  clear hn
  have g : ¬ (20 : Int) < (n : Int) := by omega
  go_enter Tryz.func173, Tryz.ntmps173
  go_wp2_with fail
  go_loopw [11] (fun i wr => ∃ k : Nat, k ≤ n ∧ i = .int .i64 k ∧ faultHL l = faultHL (l.drop k) ∧ Below w.heap.size w wr) (fun i _ => n - (intOf i).toNat)
  case atStart => exact ⟨0, Nat.zero_le _, rfl, rfl, Below.refl _ _⟩
  case round =>
    obtain ⟨k, hk, rfl, hf, hb⟩ := hrel
    have HF : Hid (faultHL l = faultHL (l.drop k)) := hf
    clear hf
    by_cases hlt : k < n
    · obtain ⟨r, hr⟩ : ∃ r, l[k]? = some r := ⟨l[k]'(by have := HN.out; omega), List.getElem?_eq_getElem _⟩
      rcases HI.out with h | ⟨b, off, rfl, hat⟩
      · subst h; simp at hr
      obtain ⟨p1, p3⟩ := (hat.keep hb) k r hr
      have HD : Hid (l.drop k = r :: l.drop (k + 1)) := drop_hdr l k r hr
      have gk : (k : Int) < n := by omega
      have SF : Hid (∀ W, Below wr.heap.size wr W → Calls Tryz.prog 220 #[.agg #[.string r.name, .string r.value]] W fun e w' => e = .returned (.int .i64 (faultH r)) ∧ Below W.heap.size W w') := fun W h => implLine_any r W ((HS.out.below hb).below h)
      clear hr hat HI
      by_cases hfr : faultH r = 0
      · have HX : Hid (faultHL l = faultHL (l.drop (k + 1))) := by show _ = _; rw [HF.out, HD.out, faultHL_ok hfr]
        rw [hfr] at SF
        clear hfr HD HF
        obtain ⟨rn, rv⟩ := r
        simp only at p1 p3 SF
        go_wp2_with fail
        refine (SF.out _ ((Below.refl _ _).alloc (Nat.le_refl _) _)).mono ?_
        rintro e w2 ⟨rfl, hb2⟩
        obtain ⟨_, _, _, kb⟩ := hdr_room hb2
        have hbb := hb.trans (kb.mono hb.size)
        clear hb2 hb kb
        go_wp2_with fail
        go_roundw
        case rel => exact ⟨k + 1, by omega, by go_num, HX.out, hbb⟩
        case measure => simp [intOf]; omega
      · have HX : Hid (headsC l = faultH r) := by show _ = _; rw [HC.out, HF.out, HD.out, faultHL_bad hfr]
        clear HD HF HC
        obtain ⟨rn, rv⟩ := r
        simp only at p1 p3 SF
        generalize faultH ⟨rn, rv⟩ = fr at *
        go_wp2_with fail
        refine (SF.out _ ((Below.refl _ _).alloc (Nat.le_refl _) _)).mono ?_
        rintro e w2 ⟨rfl, hb2⟩
        obtain ⟨_, _, _, kb⟩ := hdr_room hb2
        have hbb := hb.trans (kb.mono hb.size)
        clear hb2 hb kb
        go_wp2_with fail
        go_ret
        exact ⟨ret_int HX.out.symm, hbb⟩
    · have HX : Hid (headsC l = 0) := by
        show _ = _
        rw [HC.out, HF.out, List.drop_of_length_le (by have := HN.out; omega)]
        rfl
      clear HF HC
      go_wp2_with fail
      go_ret
      exact ⟨ret_int HX.out.symm, hb⟩
end Go.Proofs.YtlbagfaiiileoaaGreatDoor
/-
  What LowerText answers where the text is not too long.
-/
namespace Go.Proofs.YtlbagfaiiileoaaGreatDoor
open Go.ChangeShapes Go.WideShapes Go.ChangeAt Go.RowKit
set_option maxHeartbeats 1000000 in
theorem implLower_any (s : ByteArray) (w : World) (hs : s.size ≤ 1000) :
    Calls Tryz.prog 150 #[.string s] w fun e w' => e = .returned (.agg #[.int .i64 0, .string (lowS s)]) ∧ Below w.heap.size w w' := by
  obtain ⟨C, cap, hcv, hrow⟩ : ∃ C cap, (convert 9 159 (.string s)).run Tryz.prog (w.alloc (.cells #[.int .i64 0, .string ⟨#[]⟩] 224)) = .ok (.slice (some ⟨w.heap.size + 1, 0, none⟩) s.size cap) ((w.alloc (.cells #[.int .i64 0, .string ⟨#[]⟩] 224)).drew.alloc (.cells C 5 (C.size, C.size + 1))) ∧ BRow ((w.alloc (.cells #[.int .i64 0, .string ⟨#[]⟩] 224)).alloc (.cells C 5 (C.size, C.size + 1))) (w.heap.size + 1) s.data.toList := by
    have h1 := run_bytes_of_string (P := Tryz.prog) (w.alloc (.cells #[.int .i64 0, .string ⟨#[]⟩] 224)) 9 159 5 s Tryz.underlying9 Tryz.underlying159 Tryz.underlying5
    have h2 := fun cap => BRow.made (w.alloc (.cells #[.int .i64 0, .string ⟨#[]⟩] 224)) s cap _ rfl
    simp only [World.size_alloc] at h1 h2
    exact ⟨_, _, h1, h2 _⟩
  have hns : ¬ (1000 : Int) < s.size := by omega
  go_enter Tryz.func150, Tryz.ntmps150
  go_wp2
  go_loopw [14] (fun i wr => ∃ k : Nat, k ≤ s.size ∧ i = .int .i64 k ∧ BRow wr (w.heap.size + 1) (lowK s.data.toList k) ∧ Below (w.heap.size + 1) (w.alloc (.cells #[.int .i64 0, .string ⟨#[]⟩] 224)) wr) (fun i _ => s.size - (intOf i).toNat)
  case atStart => exact ⟨0, Nat.zero_le _, rfl, by rw [lowK_zero]; exact ⟨hrow.cell, hrow.free⟩, ((Below.refl _ _).alloc (by simp) _).drew⟩
  case round =>
    obtain ⟨k, hk, rfl, hr, hb⟩ := hrel
    clear hcv hrow
    have hlen := lowK_length s.data.toList k
    by_cases hlt : k < s.size
    · have hl : k < s.data.toList.length := by simpa using hlt
      have hl2 : k < (lowK s.data.toList k).length := by omega
      have hc := hr.cell k hl2
      have hf := hr.free k hl2
      rw [lowK_at _ _ hl hl2] at hc
      have Y : Hid (65 ≤ (s.data.toList[k].toNat : Int) ∧ (s.data.toList[k].toNat : Int) ≤ 90 → BRow (wr.setCell ⟨w.heap.size + 1, k, none⟩ (.int .u8 ((s.data.toList[k].toNat : Int) + 32))) (w.heap.size + 1) (lowK s.data.toList (k + 1))) := by
        intro ⟨u1, u2⟩
        have := hr.set k (lowU s.data.toList[k])
        rw [lowU_yes _ u1 u2] at this
        rw [lowK_succ _ _ hl]
        exact this
      have N : Hid (¬ (65 ≤ (s.data.toList[k].toNat : Int) ∧ (s.data.toList[k].toNat : Int) ≤ 90) → BRow wr (w.heap.size + 1) (lowK s.data.toList (k + 1))) := by
        intro u
        rw [lowK_keep _ _ hl u]
        exact hr
      generalize s.data.toList[k] = x at *
      clear hr hlen hl2 hl
      by_cases hU : 65 ≤ (x.toNat : Int) ∧ (x.toNat : Int) ≤ 90
      · have R : Hid (BRow (wr.setCell ⟨w.heap.size + 1, k, none⟩ (.int .u8 ((x.toNat : Int) - 65 + 97))) (w.heap.size + 1) (lowK s.data.toList (k + 1))) := by
          have := Y.out hU
          rw [show (x.toNat : Int) + 32 = (x.toNat : Int) - 65 + 97 from by omega] at this
          exact this
        obtain ⟨u1, u2⟩ := hU
        have d2 : decide ((x.toNat : Int) ≤ 90) = true := by simpa using u2
        clear Y N
        go_wp2
        go_roundw
        case rel => exact ⟨k + 1, by omega, by go_num, R.out, hb.setCell (Nat.le_refl _) _⟩
        case measure => simp [intOf]; omega
      · have R : Hid (BRow wr (w.heap.size + 1) (lowK s.data.toList (k + 1))) := N.out hU
        clear Y N
        by_cases u1 : 65 ≤ (x.toNat : Int)
        · have u2 : 90 < (x.toNat : Int) := by omega
          have d2 : decide ((x.toNat : Int) ≤ 90) = false := by simp; omega
          clear hU
          go_wp2
          go_roundw
          case rel => exact ⟨k + 1, by omega, by go_num, R.out, hb⟩
          case measure => simp [intOf]; omega
        · clear hU
          go_wp2
          go_roundw
          case rel => exact ⟨k + 1, by omega, by go_num, R.out, hb⟩
          case measure => simp [intOf]; omega
    · have e : lowK s.data.toList k = s.data.toList.map lowU := lowK_all _ _ (by simp; omega)
      rw [e] at hr
      have hback := hr.back (P := Tryz.prog) 159 9 5 s.size cap (by simp) Tryz.underlying159 Tryz.underlying5 Tryz.underlying9
      have HL : Hid ((⟨(s.data.toList.map lowU).toArray⟩ : ByteArray) = lowS s) := rfl
      generalize (⟨(s.data.toList.map lowU).toArray⟩ : ByteArray) = r at *
      clear hr e hlen
      have p0 : wr.cell? ⟨w.heap.size, 0, none⟩ = some (.int .i64 0) := by rw [hb.cell (p := ⟨w.heap.size, 0, none⟩) (Nat.lt_succ_self _)]; simp
      have p1 : wr.cell? ⟨w.heap.size, 1, none⟩ = some (.string ⟨#[]⟩) := by rw [hb.cell (p := ⟨w.heap.size, 1, none⟩) (Nat.lt_succ_self _)]; simp
      have f0 : wr.frozen? ⟨w.heap.size, 0, none⟩ = false := by rw [hb.frozen (p := ⟨w.heap.size, 0, none⟩) (Nat.lt_succ_self _)]; simp
      have f1 : wr.frozen? ⟨w.heap.size, 1, none⟩ = false := by rw [hb.frozen (p := ⟨w.heap.size, 1, none⟩) (Nat.lt_succ_self _)]; simp
      obtain ⟨q0, q1⟩ := two_set (v0 := .int .i64 0) (v1 := .string r) p0 p1
      go_wp2
      have kb : Below w.heap.size w wr := ((Below.refl _ _).alloc (Nat.le_refl _) _).trans (hb.mono (Nat.le_succ _))
      exact bodyPost_ret (v := .agg #[.int .i64 0, .string r]) (by simp [results, Tryz.results150, go_sem, q0, q1]) rfl ⟨by rw [HL.out], (kb.setCell (Nat.le_refl _) _).setCell (Nat.le_refl _) _⟩
set_option maxHeartbeats 400000 in
theorem implLower_long (s : ByteArray) (w : World) (h : 1000 < s.size) :
    Calls Tryz.prog 150 #[.string s] w fun e w' => e = .returned (.agg #[.int .i64 2, .string ⟨#[]⟩]) ∧ Below w.heap.size w w' := by
  have hh : (1000 : Int) < s.size := by omega
  go_enter Tryz.func150, Tryz.ntmps150
  go_wp2
  exact bodyPost_ret (v := .agg #[.int .i64 2, .string ⟨#[]⟩]) (by simp [results, Tryz.results150, go_sem]) rfl ⟨rfl, (Below.refl _ _).alloc (Nat.le_refl _) _⟩
end Go.Proofs.YtlbagfaiiileoaaGreatDoor
/-
  Fields of results; what lies in memory behind a call.
-/
namespace Go.Proofs.YtlbagfaiiileoaaGreatDoor
open Go.ChangeShapes Go.WideShapes Go.ChangeAt Go.RowKit Go.Sort
theorem f_field_code (c : Int) (s : ByteArray) (w : World) : (Instr.field 224 (.agg #[.int .i64 c, .string s]) 0).run Tryz.prog w = .ok (.int .i64 c) w := by kernel_rfl
theorem f_field_text (c : Int) (s : ByteArray) (w : World) : (Instr.field 224 (.agg #[.int .i64 c, .string s]) 1).run Tryz.prog w = .ok (.string s) w := by kernel_rfl
theorem f_keep {W W' : World} (hb : Below W.heap.size W W') {p : Addr} {v : Value} (h : W.cell? p = some v) : W'.cell? p = some v := by
  rw [hb.cell (block_lt_of_cell h)]; exact h
theorem f_keepA {W : World} {p : Addr} {v : Value} (o : Obj) (h : W.cell? p = some v) : (W.alloc o).cell? p = some v := f_keep ((Below.refl _ _).alloc (Nat.le_refl _) _) h
end Go.Proofs.YtlbagfaiiileoaaGreatDoor
/-
  A map of texts to places, in memory: what is asked of it, what is laid into it, what goes from it.
-/
namespace Go.Proofs.YtlbagfaiiileoaaGreatDoor
open Go.ChangeShapes Go.WideShapes Go.ChangeAt Go.RowKit Go.Maps
open Go.WideMaps (keyOf_string_mk)
theorem isKeyL (x : ByteArray) : WideAt.IsKeyLit (.string x.data.toList) := trivial
theorem hkeyed : Keyed Tryz.prog 9 := string_keyed Tryz.underlying9
theorem hzeroInt (w : World) : (zeroValue 3).run Tryz.prog w = .ok (.int .i64 0) w := by kernel_rfl
def keyL (x : ByteArray) : Lit := .string x.data.toList
theorem keyL_ne {x y : ByteArray} (h : x ≠ y) : keyL x ≠ keyL y := by
  intro e
  unfold keyL at e
  simp only [Lit.string.injEq] at e
  exact h (ByteArray.ext (Array.ext' e))
/-- Block B is a map of at most n entries that has p's places at p's names. -/
def NamesMap (w : World) (B n : Nat) (p : ByteArray → Option Nat) : Prop :=
  ∃ D : DataW Unit, w.ownsMap Tryz.prog 9 (plainElem Tryz.prog 3) B n D ∧ ∀ x : ByteArray, Maps.has D (keyL x) = (p x).isSome ∧ ∀ i, p x = some i → D.atKey (keyL x) (.lit (.int .i64 0)) = .lit (.int .i64 (i : Int))
theorem NamesMap.lt {w : World} {B n : Nat} {p : ByteArray → Option Nat} (h : NamesMap w B n p) : B < w.heap.size := by
  obtain ⟨D, h, _⟩ := h
  exact h.lt
theorem NamesMap.below {w w' : World} {B n : Nat} {p : ByteArray → Option Nat} (h : NamesMap w B n p) (hb : Below w.heap.size w w') : NamesMap w' B n p := by
  have hl := h.lt
  obtain ⟨D, ⟨es, clock, hh, r⟩, h2⟩ := h
  exact ⟨D, ⟨es, clock, by rw [hb.block B hl]; exact hh, r⟩, h2⟩
theorem NamesMap.setCell {w : World} {B n : Nat} {p : ByteArray → Option Nat} (h : NamesMap w B n p) {a : Addr} (ha : B ≠ a.block) (u : Value) : NamesMap (w.setCell a u) B n p := by
  obtain ⟨D, h, h2⟩ := h
  exact ⟨D, h.setCell ha u, h2⟩
theorem NamesMap.made (w : World) : NamesMap (w.alloc (.map #[] 0)) w.heap.size 0 (fun _ => none) :=
  ⟨.map [], World.ownsMap_made w _ _ _, fun x => ⟨rfl, fun i h => by cases h⟩⟩
theorem NamesMap.of {w : World} {B n : Nat} {p q : ByteArray → Option Nat} (h : NamesMap w B n p) (e : ∀ x, p x = q x) : NamesMap w B n q := by
  obtain rfl : p = q := funext e
  exact h
theorem turned_below {w w' : World} {B base : Nat} (h : w.mapTurned w' B) (hb : base ≤ B) : Below base w w' :=
  (Below.refl base w).grown h.grown (by
    obtain ⟨es, clock, es', clock', hh, rfl⟩ := h
    have := (Array.getElem?_eq_some_iff.1 hh).1
    omega) (fun q hq => by cases hq; exact hb)
section
variable {ops : Array Oper} {rest : List Oper} {o : Oper} {a : Act} {Q : Exit → Act → World → Prop}
theorem wpList_look_none (w : World) (hg : o.guard = none) (m x : Operand) (hop : o.op = Op.lookup 247 m x true) (B n : Nat) (p : ByteArray → Option Nat)
    (hm : a.eval m = .map (some B)) (hown : NamesMap w B n p) (key : ByteArray) (hx : a.eval x = .string key) (hk : key.size ≤ 1048576) (hp : p key = none)
    (hK : wpList Tryz.prog ops Q rest (a.put o.dst (.tuple #[.int .i64 0, .bool false])) w) : wpList Tryz.prog ops Q (o :: rest) a w := by
  obtain ⟨D, hD, hat⟩ := hown
  have h1 : Maps.has D (keyL key) = false := by rw [(hat key).1, hp]; rfl
  refine wpList_lookup_own_ok_int w hg m x 247 hop 9 3 .i64 hkeyed Tryz.underlying247 Tryz.underlying3 (hzeroInt w) B n D hm hD _ (keyL key) hx (keyOf_string_mk Tryz.underlying9 (by unfold maxLen; omega)) ?_
  intro c hc _
  rw [atKey_of_not_has h1] at hc
  obtain rfl : c = 0 := by simpa using hc.symm
  rw [h1]
  exact hK
theorem wpList_look_some (w : World) (hg : o.guard = none) (m x : Operand) (hop : o.op = Op.lookup 247 m x true) (B n : Nat) (p : ByteArray → Option Nat)
    (hm : a.eval m = .map (some B)) (hown : NamesMap w B n p) (key : ByteArray) (hx : a.eval x = .string key) (hk : key.size ≤ 1048576) (i : Nat) (hp : p key = some i)
    (hK : wpList Tryz.prog ops Q rest (a.put o.dst (.tuple #[.int .i64 (i : Int), .bool true])) w) : wpList Tryz.prog ops Q (o :: rest) a w := by
  obtain ⟨D, hD, hat⟩ := hown
  have h1 : Maps.has D (keyL key) = true := by rw [(hat key).1, hp]; rfl
  refine wpList_lookup_own_ok_int w hg m x 247 hop 9 3 .i64 hkeyed Tryz.underlying247 Tryz.underlying3 (hzeroInt w) B n D hm hD _ (keyL key) hx (keyOf_string_mk Tryz.underlying9 (by unfold maxLen; omega)) ?_
  intro c hc _
  rw [(hat key).2 i hp] at hc
  obtain rfl : c = (i : Int) := by simpa using hc.symm
  rw [h1]
  exact hK
theorem wpList_put (w : World) (hg : o.guard = none) (m x v : Operand) (hop : o.op = Op.mapUpdate 247 m x v) (B n : Nat) (p : ByteArray → Option Nat)
    (hm : a.eval m = .map (some B)) (hown : NamesMap w B n p) (hn : n ≤ 1048576) (key : ByteArray) (hx : a.eval x = .string key) (hk : key.size ≤ 1048576) (i : Nat) (hi : i ≤ 1048576) (hv : a.eval v = .int .i64 (i : Int)) (base : Nat) (hbase : base ≤ B)
    (hK : ∀ w', NamesMap w' B (n + 1) (fun y => if y = key then some i else p y) → Below base w w' → wpList Tryz.prog ops Q rest (a.put o.dst undef) w') : wpList Tryz.prog ops Q (o :: rest) a w := by
  obtain ⟨D, hD, hat⟩ := hown
  refine wpList_mapUpdate_in w hg m x v 247 hop 9 3 hkeyed Tryz.underlying247 _ B n D hm hD (by unfold maxLen; omega) _ _ (keyL key) hx hv (keyOf_string_mk Tryz.underlying9 (by unfold maxLen; omega)) (.lit (.int .i64 (i : Int))) [] (plainElem_int Tryz.underlying3 (WalkArith.wf_i64 (by omega))) ?_
  intro w' hD' ht
  refine hK w' ⟨_, hD', fun y => ?_⟩ (turned_below ht hbase)
  by_cases e : y = key
  · subst e
    simp only [if_true]
    refine ⟨has_put_same hD.isMap (isKeyL _) _, fun j hj => ?_⟩
    obtain rfl := Option.some.inj hj
    exact atKey_put_same hD.isMap (isKeyL _) _ _
  · simp only [if_neg e]
    rw [has_put_other (keyL_ne e), atKey_put_other (keyL_ne e)]
    exact hat y
theorem wpList_del (w : World) (hg : o.guard = none) (m x : Operand) (hop : o.op = Op.call { callee := Callee.builtin Builtin.delete, args := #[m, x], argTypes := #[247, 9] }) (B n : Nat) (p : ByteArray → Option Nat)
    (hm : a.eval m = .map (some B)) (hown : NamesMap w B n p) (key : ByteArray) (hx : a.eval x = .string key) (hk : key.size ≤ 1048576) (base : Nat) (hbase : base ≤ B)
    (hK : ∀ w', NamesMap w' B n (fun y => if y = key then none else p y) → Below base w w' → wpList Tryz.prog ops Q rest (a.put o.dst (.tuple #[])) w') : wpList Tryz.prog ops Q (o :: rest) a w := by
  obtain ⟨D, hD, hat⟩ := hown
  refine wpList_delete_own w hg m x 247 9 hop 3 hkeyed Tryz.underlying247 _ B n D hm hD _ (keyL key) hx (keyOf_string_mk Tryz.underlying9 (by unfold maxLen; omega)) ?_
  intro w' hD' ht
  refine hK w' ⟨_, hD', fun y => ?_⟩ (turned_below ht hbase)
  by_cases e : y = key
  · subst e
    simp only [if_true]
    exact ⟨has_del_same, fun j hj => by cases hj⟩
  · simp only [if_neg e]
    rw [has_del_other (keyL_ne e), atKey_del_other (keyL_ne e)]
    exact hat y
end
end Go.Proofs.YtlbagfaiiileoaaGreatDoor
/-
  Names that are alike; what is asked ahead by all that look for a name.
-/
namespace Go.Proofs.YtlbagfaiiileoaaGreatDoor
open Go.ChangeShapes Go.WideShapes Go.ChangeAt Go.RowKit Go.Sort
theorem lowS_size (s : ByteArray) : (lowS s).size = s.size := by
  show ((s.data.toList.map lowU).toArray).size = s.data.size
  rw [List.size_toArray, List.length_map, Array.length_toList]
set_option maxHeartbeats 1000000 in
theorem smallName_any (s : ByteArray) (w : World) (hs : s.size ≤ 1000) :
    Calls Tryz.prog 286 #[.string s] w fun e w' => e = .returned (.string (lowS s)) ∧ Below w.heap.size w w' := by
  have HC := implLower_any s w hs
  have hf := f_field_text
  generalize lowS s = q at *
  go_enter Tryz.func286, Tryz.ntmps286
  go_wp2_with fail
  refine HC.mono ?_
  rintro e w1 ⟨rfl, hb⟩
  go_wp2_with fail
  go_ret
  exact ⟨rfl, hb⟩
set_option maxHeartbeats 1000000 in
theorem l4Alike_any (s t : ByteArray) (w : World) (hs : s.size ≤ 1048576) (ht : t.size ≤ 1048576) :
    Calls Tryz.prog 246 #[.string s, .string t] w fun e w' => e = .returned (.bool (decide (lowS s = lowS t))) ∧ Below w.heap.size w w' := by
  have H1 : Hid (∀ w, Calls Tryz.prog 92 #[.string s] w fun e w' => e = .returned (.string (lowS s)) ∧ Below w.heap.size w w') := fun w => l1Lower_any s w hs
  have H2 : Hid (∀ w, Calls Tryz.prog 92 #[.string t] w fun e w' => e = .returned (.string (lowS t)) ∧ Below w.heap.size w w') := fun w => l1Lower_any t w ht
  by_cases he : lowS s = lowS t
  · have HE : Hid (decide (lowS s = lowS t) = true) := by show _ = _; simpa using he
    rw [he] at H1
    clear he
    generalize lowS t = q at *
    go_enter Tryz.func246, Tryz.ntmps246
    go_wp2_with fail
    refine (H1.out _).mono ?_
    rintro e w1 ⟨rfl, hb1⟩
    go_wp2_with fail
    refine (H2.out _).mono ?_
    rintro e w2 ⟨rfl, hb2⟩
    have hbb := hb1.trans (hb2.mono hb1.size)
    clear hb1 hb2
    go_wp2_with fail
    go_ret
    exact ⟨ret_bool HE.out.symm, hbb⟩
  · have HE : Hid (decide (lowS s = lowS t) = false) := by show _ = _; simpa using he
    have hq := hstr_ne he
    clear he
    generalize lowS t = q at *
    generalize lowS s = p at *
    go_enter Tryz.func246, Tryz.ntmps246
    go_wp2_with fail
    refine (H1.out _).mono ?_
    rintro e w1 ⟨rfl, hb1⟩
    go_wp2_with fail
    refine (H2.out _).mono ?_
    rintro e w2 ⟨rfl, hb2⟩
    have hbb := hb1.trans (hb2.mono hb1.size)
    clear hb1 hb2
    go_wp2_with fail
    go_ret
    exact ⟨ret_bool HE.out.symm, hbb⟩
set_option maxHeartbeats 1000000 in
theorem namedFault_any (w : World) (a : Option Addr) (cap : Nat) (l : List Hdr) (name : ByteArray) (hl : l.length ≤ 1048576) (hset : SetIs w) (hi : HdsIn w a l) :
    Calls Tryz.prog 285 #[.slice a l.length cap, .string name] w fun e w' => e = .returned (.int .i64 (askC l name)) ∧ Below w.heap.size w w' := by
  have HF := implHFault_any w a cap l hl hset hi
  have HS : Hid (SetIs w) := hset
  clear hi hset
  by_cases h0 : headsC l = 0
  · rw [h0] at HF
    generalize l.length = n at *
    cases hw : wordS name
    · have HE : Hid (askC l name = 5) := askC_text h0 hw
      have HW : Hid (wordS name = false) := hw
      clear h0 hw
      go_enter Tryz.func285, Tryz.ntmps285
      go_wp2_with fail
      refine HF.mono ?_
      rintro e w1 ⟨rfl, hb1⟩
      go_wp2_with fail
      refine (implIsWord_set name _ (HS.out.below hb1)).mono ?_
      rintro e w2 ⟨rfl, hb2⟩
      rw [HW.out]
      have hbb := hb1.trans (hb2.mono hb1.size)
      clear hb1 hb2
      go_wp2_with fail
      go_ret
      exact ⟨ret_int HE.out.symm, hbb⟩
    · have HE : Hid (askC l name = 0) := askC_word h0 hw
      have HW : Hid (wordS name = true) := hw
      clear h0 hw
      go_enter Tryz.func285, Tryz.ntmps285
      go_wp2_with fail
      refine HF.mono ?_
      rintro e w1 ⟨rfl, hb1⟩
      go_wp2_with fail
      refine (implIsWord_set name _ (HS.out.below hb1)).mono ?_
      rintro e w2 ⟨rfl, hb2⟩
      rw [HW.out]
      have hbb := hb1.trans (hb2.mono hb1.size)
      clear hb1 hb2
      go_wp2_with fail
      go_ret
      exact ⟨ret_int HE.out.symm, hbb⟩
  · have HE : Hid (askC l name = headsC l) := askC_bad h0
    generalize headsC l = fc at *
    generalize l.length = n at *
    go_enter Tryz.func285, Tryz.ntmps285
    go_wp2_with fail
    refine HF.mono ?_
    rintro e w1 ⟨rfl, hb1⟩
    go_wp2_with fail
    go_ret
    exact ⟨ret_int HE.out.symm, hb1⟩
set_option maxHeartbeats 1000000 in
theorem hclone_any (s : ByteArray) (w : World) (hs : s.size ≤ 1048576) :
    Calls Tryz.prog 135 #[.string s] w fun e w' => e = .returned (.string s) ∧ Below w.heap.size w w' := by
  go_enter Tryz.func135, Tryz.ntmps135
  go_wp2_with fail
  refine (Any.stringslite_Clone Tryz.laysM316 s _ (by omega)).mono ?_
  rintro e w1 ⟨rfl, hb⟩
  go_wp2
  go_ret
  exact ⟨rfl, hb⟩
theorem hdr_free {w w1 : World} {t : TypeId} (hb : Below (w.heap.size + 1) (w.alloc (.cells #[.string ⟨#[]⟩, .string ⟨#[]⟩] t)) w1) :
    w.heap.size < w1.heap.size ∧ w1.cell? ⟨w.heap.size, 0, none⟩ = some (.string ⟨#[]⟩) ∧ w1.cell? ⟨w.heap.size, 1, none⟩ = some (.string ⟨#[]⟩) ∧ w1.frozen? ⟨w.heap.size, 0, none⟩ = false ∧ w1.frozen? ⟨w.heap.size, 1, none⟩ = false ∧ Below w.heap.size w w1 := by
  have hz := hb.size
  simp only [World.size_alloc] at hz
  exact ⟨hz, by rw [hb.cell (p := ⟨w.heap.size, 0, none⟩) (Nat.lt_succ_self _)]; simp, by rw [hb.cell (p := ⟨w.heap.size, 1, none⟩) (Nat.lt_succ_self _)]; simp, by rw [hb.frozen (p := ⟨w.heap.size, 0, none⟩) (Nat.lt_succ_self _)]; simp, by rw [hb.frozen (p := ⟨w.heap.size, 1, none⟩) (Nat.lt_succ_self _)]; simp, ((Below.refl _ _).alloc (Nat.le_refl _) _).trans (hb.mono (Nat.le_succ _))⟩
end Go.Proofs.YtlbagfaiiileoaaGreatDoor
/-
  The room of a TextResult behind a call.
-/
namespace Go.Proofs.YtlbagfaiiileoaaGreatDoor
open Go.ChangeShapes Go.WideShapes Go.ChangeAt Go.RowKit
theorem text_room {w w1 : World} (hb : Below (w.heap.size + 1) (w.alloc (.cells #[.int .i64 0, .string ⟨#[]⟩] 224)) w1) :
    w.heap.size < w1.heap.size ∧ w1.cell? ⟨w.heap.size, 0, none⟩ = some (.int .i64 0) ∧ w1.cell? ⟨w.heap.size, 1, none⟩ = some (.string ⟨#[]⟩) ∧ w1.frozen? ⟨w.heap.size, 0, none⟩ = false ∧ w1.frozen? ⟨w.heap.size, 1, none⟩ = false ∧ Below w.heap.size w w1 := by
  have hz := hb.size
  simp only [World.size_alloc] at hz
  exact ⟨hz, by rw [hb.cell (p := ⟨w.heap.size, 0, none⟩) (Nat.lt_succ_self _)]; simp, by rw [hb.cell (p := ⟨w.heap.size, 1, none⟩) (Nat.lt_succ_self _)]; simp, by rw [hb.frozen (p := ⟨w.heap.size, 0, none⟩) (Nat.lt_succ_self _)]; simp, by rw [hb.frozen (p := ⟨w.heap.size, 1, none⟩) (Nat.lt_succ_self _)]; simp, ((Below.refl _ _).alloc (Nat.le_refl _) _).trans (hb.mono (Nat.le_succ _))⟩
end Go.Proofs.YtlbagfaiiileoaaGreatDoor
/-
  What the model of PackHeaders tells.
-/
namespace Go.Proofs.YtlbagfaiiileoaaGreatDoor
open Go.ChangeShapes Go.WideShapes Go.ChangeAt Go.RowKit Go.Sort
theorem HdsIn.ok {w : World} {a : Option Addr} {l : List Hdr} (h : HdsIn w a l) {k : Nat} {r : Hdr} (hr : l[k]? = some r) : ∃ b off, a = some ⟨b, off, none⟩ ∧ HeadsAt w b off l := by
  rcases h with h | h
  · subst h; simp at hr
  · exact h
theorem line_app (o n v : ByteArray) : (o ++ n ++ ⟨#[58, 32]⟩ ++ v ++ ⟨#[13, 10]⟩ : ByteArray).data.toList = o.data.toList ++ lineL ⟨n, v⟩ := by
  simp only [happ_list, lineL, List.append_assoc]
theorem line_app2 (o n v : ByteArray) : (o ++ (n ++ ⟨#[58, 32]⟩ ++ v ++ ⟨#[13, 10]⟩) : ByteArray).data.toList = o.data.toList ++ lineL ⟨n, v⟩ := by
  simp only [happ_list, lineL, List.append_assoc]
set_option maxRecDepth 100000 in
set_option maxHeartbeats 4000000 in
/-- Lines that have no fault, told. -/
theorem l4Pack_any (w : World) (a : Option Addr) (cap : Nat) (l : List Hdr) (h20 : l.length ≤ 100) (hf : ∀ (i : Nat) r, l[i]? = some r → r.name.size ≤ 1100 ∧ r.value.size ≤ 1100) (hi : HdsIn w a l) :
    Calls Tryz.prog 209 #[.slice a l.length cap] w fun e w' => e = .returned (.string ⟨(packL l).toArray⟩) ∧ Below w.heap.size w w' := by
  have HI : Hid (HdsIn w a l) := hi
  have HF : Hid (∀ (i : Nat) r, l[i]? = some r → r.name.size ≤ 1100 ∧ r.value.size ≤ 1100) := hf
  clear hi hf
  generalize hn : l.length = n at *
  have HN : Hid (l.length = n) := hn
  clear hn
  go_enter Tryz.func209, Tryz.ntmps209
  go_wp2_with fail
  go_loopw [3, 4] (fun v i wr => ∃ (k : Nat) (o : ByteArray), k ≤ n ∧ i = .int .i64 k ∧ v = .string o ∧ o.data.toList = packL (l.take k) ∧ o.size ≤ k * 2300 ∧ Below w.heap.size w wr) (fun _ i _ => n - (intOf i).toNat)
  case atStart => exact ⟨0, ⟨#[]⟩, Nat.zero_le _, rfl, rfl, rfl, Nat.zero_le _, Below.refl _ _⟩
  case round =>
    obtain ⟨k, o, hk, rfl, rfl, ho, hos, hb⟩ := hrel
    have HO : Hid (o.data.toList = packL (l.take k)) := ho
    clear ho
    by_cases hlt : k < n
    · obtain ⟨r, hr⟩ : ∃ r, l[k]? = some r := ⟨l[k]'(by have := HN.out; omega), List.getElem?_eq_getElem _⟩
      obtain ⟨b, off, rfl, hat⟩ := HI.out.ok hr
      obtain ⟨p1, p3⟩ := (hat.keep hb) k r hr
      obtain ⟨z1, z2⟩ := HF.out k r hr
      have HJ : Hid (packL (l.take (k + 1)) = packL (l.take k) ++ lineL r) := packL_take hr
      have x1 := cell_regrown p1
      have x3 := cell_regrown p3
      have g0 : (0 : Int) ≤ k := by omega
      have gk : (k : Int) < n := by omega
      clear hr hat HI p1 p3 HF
      obtain ⟨rn, rv⟩ := r
      simp only at x1 x3 z1 z2
      have hoz : o.size ≤ 230000 := by omega
      have HT : Hid ((o ++ rn ++ ⟨#[58, 32]⟩ ++ rv ++ ⟨#[13, 10]⟩ : ByteArray).data.toList = packL (l.take (k + 1))) := by
        show _ = _
        rw [HJ.out, line_app, HO.out]
      have zz : (⟨#[58, 32]⟩ : ByteArray).size = 2 := rfl
      have zy : (⟨#[13, 10]⟩ : ByteArray).size = 2 := rfl
      have a1 := fun w => run_string_add_sum (P := Tryz.prog) (w := w) o rn (by omega)
      have s1 : (o ++ rn).size = o.size + rn.size := ByteArray.size_append
      have a2 := fun w => run_string_add_sum (P := Tryz.prog) (w := w) (o ++ rn) ⟨#[58, 32]⟩ (by omega)
      have s2 : (o ++ rn ++ ⟨#[58, 32]⟩ : ByteArray).size = o.size + rn.size + 2 := by rw [ByteArray.size_append, s1, zz]
      have a3 := fun w => run_string_add_sum (P := Tryz.prog) (w := w) (o ++ rn ++ ⟨#[58, 32]⟩) rv (by omega)
      have s3 : (o ++ rn ++ ⟨#[58, 32]⟩ ++ rv : ByteArray).size = o.size + rn.size + 2 + rv.size := by rw [ByteArray.size_append, s2]
      have a4 := fun w => run_string_add_sum (P := Tryz.prog) (w := w) (o ++ rn ++ ⟨#[58, 32]⟩ ++ rv) ⟨#[13, 10]⟩ (by omega)
      have s4 : (o ++ rn ++ ⟨#[58, 32]⟩ ++ rv ++ ⟨#[13, 10]⟩ : ByteArray).size = o.size + rn.size + 2 + rv.size + 2 := by rw [ByteArray.size_append, s3, zy]
      have HU : Hid ((o ++ rn ++ ⟨#[58, 32]⟩ ++ rv ++ ⟨#[13, 10]⟩ : ByteArray).size ≤ (k + 1) * 2300) := by
        show _ ≤ _
        rw [s4]; omega
      clear s1 s2 s3 s4 zz zy
      clear HJ HO
      generalize (o ++ rn ++ ⟨#[58, 32]⟩ ++ rv ++ ⟨#[13, 10]⟩ : ByteArray) = q4 at *
      generalize (o ++ rn ++ ⟨#[58, 32]⟩ ++ rv : ByteArray) = q3 at *
      generalize (o ++ rn ++ ⟨#[58, 32]⟩ : ByteArray) = q2 at *
      generalize (o ++ rn : ByteArray) = q1 at *
      go_wp2_with fail
      refine wp_region_quiet_below (by kernel_rfl) (by kernel_rfl) ?_
      repeat (go_big_quiet_step (fail))
      refine wpQuiet_nil ?_
      intro w2 hw2
      have hbb : Below w.heap.size w w2 := by
        obtain ⟨⟨d, os⟩, rfl⟩ := hw2
        exact hb.trans ((below_regrown wr d os).mono hb.size)
      clear x1 x3 hw2 hb a1 a2 a3 a4
      go_wp2_with fail
      go_roundw
      case rel => exact ⟨k + 1, q4, by omega, by go_num, rfl, HT.out, HU.out, hbb⟩
      case measure => simp [intOf]; omega
    · have HT : Hid ((⟨(packL l).toArray⟩ : ByteArray) = o) := by
        show _ = _
        rw [← List.take_of_length_le (l := l) (i := k) (by have := HN.out; omega), ← HO.out]
      clear HO
      go_wp2_with fail
      go_ret
      exact ⟨ret_str HT.out.symm, hb⟩
end Go.Proofs.YtlbagfaiiileoaaGreatDoor
/-
  What PackHeaders and its model answer.
-/
namespace Go.Proofs.YtlbagfaiiileoaaGreatDoor
open Go.ChangeShapes Go.WideShapes Go.ChangeAt Go.RowKit Go.Sort
set_option maxRecDepth 100000 in
set_option maxHeartbeats 4000000 in
theorem implPack_ok (w : World) (a : Option Addr) (cap : Nat) (l : List Hdr) (h0 : headsC l = 0) (hset : SetIs w) (hi : HdsIn w a l) :
    Calls Tryz.prog 175 #[.slice a l.length cap] w fun e w' => e = .returned (.agg #[.int .i64 0, .string ⟨(packL l).toArray⟩]) ∧ Below w.heap.size w w' := by
  obtain ⟨h20, hfl⟩ := headsC_zero h0
  have HF : Hid (∀ W, Below w.heap.size w W → Calls Tryz.prog 173 #[.slice a l.length cap] W fun e w' => e = .returned (.int .i64 0) ∧ Below W.heap.size W w') := fun W hb => by
    have := implHFault_any W a cap l (by omega) (hset.below hb) (hi.keep hb)
    rw [h0] at this
    exact this
  have HI : Hid (HdsIn w a l) := hi
  have HZ : Hid (∀ (i : Nat) r, l[i]? = some r → r.name.size ≤ 64 ∧ r.value.size ≤ 200) := fun i r hr => by obtain ⟨x1, x2, _⟩ := faultH_zero (hfl i r hr); exact ⟨hword_max x1, x2⟩
  clear hi hset hfl h0
  generalize hn : l.length = n at *
  have HN : Hid (l.length = n) := hn
  clear hn
  go_enter Tryz.func175, Tryz.ntmps175
  go_wp2_with fail
  refine (HF.out _ ((Below.refl _ _).alloc (Nat.le_refl _) _)).mono ?_
  rintro e w1 ⟨rfl, hb1⟩
  rw [World.size_alloc] at hb1
  have HB1 : Hid (Below (w.heap.size + 1) (w.alloc (.cells #[.int .i64 0, .string ⟨#[]⟩] 224)) w1) := hb1
  clear hb1 HF
  go_wp2_with fail
  go_loopw [4, 15] (fun v i wr => ∃ (k : Nat) (o : ByteArray), k ≤ n ∧ i = .int .i64 k ∧ v = .string o ∧ o.data.toList = packL (l.take k) ∧ o.size ≤ k * 268 ∧ Below (w.heap.size + 1) (w.alloc (.cells #[.int .i64 0, .string ⟨#[]⟩] 224)) wr) (fun _ i _ => n - (intOf i).toNat)
  case atStart => exact ⟨0, ⟨#[]⟩, Nat.zero_le _, rfl, rfl, rfl, Nat.zero_le _, HB1.out⟩
  case round =>
    obtain ⟨k, o, hk, rfl, rfl, ho, hos, hb⟩ := hrel
    have HO : Hid (o.data.toList = packL (l.take k)) := ho
    have hz : w.heap.size + 1 ≤ wr.heap.size := by have := hb.size; rwa [World.size_alloc] at this
    clear ho HB1
    by_cases hlt : k < n
    · obtain ⟨r, hr⟩ : ∃ r, l[k]? = some r := ⟨l[k]'(by have := HN.out; omega), List.getElem?_eq_getElem _⟩
      obtain ⟨b, off, rfl, hat⟩ := HI.out.ok hr
      have hwr : Below w.heap.size w wr := ((Below.refl _ _).alloc (Nat.le_refl _) _).trans (hb.mono (Nat.le_succ _))
      obtain ⟨p1, p3⟩ := (hat.keep hwr) k r hr
      obtain ⟨z1, z2⟩ := HZ.out k r hr
      have HJ : Hid (packL (l.take (k + 1)) = packL (l.take k) ++ lineL r) := packL_take hr
      have gk : (k : Int) < n := by omega
      clear hr hat HI hwr HZ
      obtain ⟨rn, rv⟩ := r
      simp only at p1 p3 z1 z2
      have hoz : o.size ≤ 6000 := by omega
      have HT : Hid ((o ++ (rn ++ ⟨#[58, 32]⟩ ++ rv ++ ⟨#[13, 10]⟩) : ByteArray).data.toList = packL (l.take (k + 1))) := by
        show _ = _
        rw [HJ.out, line_app2, HO.out]
      have HU : Hid ((o ++ (rn ++ ⟨#[58, 32]⟩ ++ rv ++ ⟨#[13, 10]⟩) : ByteArray).size ≤ (k + 1) * 268) := by
        show _ ≤ _
        simp only [ByteArray.size_append, show (⟨#[58, 32]⟩ : ByteArray).size = 2 from rfl, show (⟨#[13, 10]⟩ : ByteArray).size = 2 from rfl]
        omega
      clear HJ HO
      go_wp2_with fail
      go_roundw
      case rel => exact ⟨k + 1, o ++ (rn ++ ⟨#[58, 32]⟩ ++ rv ++ ⟨#[13, 10]⟩), by omega, by go_num, rfl, HT.out, HU.out, hb.alloc hz _⟩
      case measure => simp [intOf]; omega
    · have HT : Hid ((⟨(packL l).toArray⟩ : ByteArray) = o) := by
        show _ = _
        rw [← List.take_of_length_le (l := l) (i := k) (by have := HN.out; omega), ← HO.out]
      obtain ⟨hz2, q0, q1, f0, f1, kb⟩ := text_room hb
      obtain ⟨r0, r1⟩ := two_set (v0 := .int .i64 0) (v1 := .string o) q0 q1
      clear HO hb
      go_wp2_with fail
      exact bodyPost_ret (v := .agg #[.int .i64 0, .string o]) (by simp [results, Tryz.results175, go_sem, r0, r1]) rfl ⟨by rw [HT.out], (kb.setCell (Nat.le_refl _) _).setCell (Nat.le_refl _) _⟩
set_option maxHeartbeats 1000000 in
theorem implPack_any (w : World) (a : Option Addr) (cap : Nat) (l : List Hdr) (hl : l.length ≤ 1048576) (hset : SetIs w) (hi : HdsIn w a l) :
    Calls Tryz.prog 175 #[.slice a l.length cap] w fun e w' => e = .returned (.agg #[.int .i64 (headsC l), .string (packT l)]) ∧ Below w.heap.size w w' := by
  by_cases h0 : headsC l = 0
  · rw [packT_ok h0, h0]
    exact implPack_ok w a cap l h0 hset hi
  · have HF : Hid (∀ W, Below w.heap.size w W → Calls Tryz.prog 173 #[.slice a l.length cap] W fun e w' => e = .returned (.int .i64 (headsC l)) ∧ Below W.heap.size W w') := fun W hb => implHFault_any W a cap l hl (hset.below hb) (hi.keep hb)
    rw [packT_bad h0]
    clear hi hset
    generalize headsC l = fc at *
    generalize l.length = n at *
    go_enter Tryz.func175, Tryz.ntmps175
    go_wp2_with fail
    refine (HF.out _ ((Below.refl _ _).alloc (Nat.le_refl _) _)).mono ?_
    rintro e w1 ⟨rfl, hb1⟩
    rw [World.size_alloc] at hb1
    obtain ⟨hz2, q0, q1, f0, f1, kb⟩ := text_room hb1
    obtain ⟨r0, r1⟩ := two_set (v0 := .int .i64 fc) (v1 := .string ⟨#[]⟩) q0 q1
    clear hb1 HF
    go_wp2_with fail
    exact bodyPost_ret (v := .agg #[.int .i64 fc, .string ⟨#[]⟩]) (by simp [results, Tryz.results175, go_sem, r0, r1]) rfl ⟨rfl, (kb.setCell (Nat.le_refl _) _).setCell (Nat.le_refl _) _⟩
end Go.Proofs.YtlbagfaiiileoaaGreatDoor
/-
  What firstPlaces and linesNamed answer.
-/
namespace Go.Proofs.YtlbagfaiiileoaaGreatDoor
open Go.ChangeShapes Go.WideShapes Go.ChangeAt Go.RowKit Go.Sort
theorem firstAt_known {l : List Hdr} {r : Hdr} {j : Nat} (h : firstAt (lowS r.name) l = some j) (x : ByteArray) : firstAt x l = firstAt x (l ++ [r]) := by
  rw [firstAt_snoc]
  cases c : firstAt x l with
  | some i => rfl
  | none =>
    by_cases e : lowS r.name = x
    · subst e; rw [h] at c; cases c
    · simp only [if_neg e]
theorem firstAt_new {l : List Hdr} {r : Hdr} (h : firstAt (lowS r.name) l = none) (x : ByteArray) : (if x = lowS r.name then some l.length else firstAt x l) = firstAt x (l ++ [r]) := by
  rw [firstAt_snoc]
  by_cases e : x = lowS r.name
  · subst e
    rw [if_pos rfl, h]
    simp
  · rw [if_neg e]
    cases c : firstAt x l with
    | some i => rfl
    | none => simp only [if_neg (fun q => e (Eq.symm q))]
set_option maxRecDepth 100000 in
set_option maxHeartbeats 4000000 in
theorem firstPlaces_any {m : Nat} (w : World) (a : Option Addr) (cap : Nat) (l : List Hdr) (h20 : l.length ≤ m) (hz : ∀ (i : Nat) r, l[i]? = some r → r.name.size ≤ 64) (hi : HdsIn w a l) (hm : m ≤ 1000 := by decide) :
    Calls Tryz.prog 287 #[.slice a l.length cap] w fun e w' => e = .returned (.map (some w.heap.size)) ∧ NamesMap w' w.heap.size m (fun x => firstAt x l) ∧ Below w.heap.size w w' := by
  have HI : Hid (HdsIn w a l) := hi
  have HZ : Hid (∀ (i : Nat) r, l[i]? = some r → r.name.size ≤ 64) := hz
  clear hi hz
  generalize hn : l.length = n at *
  have HN : Hid (l.length = n) := hn
  clear hn
  have hmm := @run_makeMap Tryz.prog
  go_enter Tryz.func287, Tryz.ntmps287
  go_wp2_with fail
  go_loopw [12] (fun i wr => ∃ (k : Nat), k ≤ n ∧ i = .int .i64 k ∧ NamesMap wr w.heap.size k (fun x => firstAt x (l.take k)) ∧ Below w.heap.size w wr) (fun i _ => n - (intOf i).toNat)
  case atStart => exact ⟨0, Nat.zero_le _, rfl, NamesMap.made w, (Below.refl _ _).alloc (Nat.le_refl _) _⟩
  case round =>
    obtain ⟨k, hk, rfl, hm, hb⟩ := hrel
    have HM : Hid (NamesMap wr w.heap.size k (fun x => firstAt x (l.take k))) := hm
    clear hm
    by_cases hlt : k < n
    · obtain ⟨r, hr⟩ : ∃ r, l[k]? = some r := ⟨l[k]'(by have := HN.out; omega), List.getElem?_eq_getElem _⟩
      obtain ⟨b, off, rfl, hat⟩ := HI.out.ok hr
      obtain ⟨p1, p3⟩ := (hat.keep hb) k r hr
      have z1 := HZ.out k r hr
      have HK : Hid (l.take (k + 1) = l.take k ++ [r]) := take_hdr hr
      have hlk : Hid ((l.take k).length = k) := by show _ = _; rw [List.length_take]; have := HN.out; omega
      have gk : (k : Int) < n := by omega
      clear hr hat HI HZ
      have FS := fun j => @firstAt_known (l.take k) r j
      have FN := @firstAt_new (l.take k) r
      obtain ⟨rn, rv⟩ := r
      simp only at p1 p3 z1 FS FN
      rw [hlk.out] at FN
      have SN := fun w => smallName_any rn w (by omega)
      have sz := lowS_size rn
      generalize lowS rn = q at *
      have HSN : Hid (∀ w, Calls Tryz.prog 286 #[.string rn] w fun e w' => e = .returned (.string q) ∧ Below w.heap.size w w') := SN
      clear SN
      cases hq : firstAt q (l.take k) with
      | some j =>
        have HX : Hid (∀ x, firstAt x (l.take k) = firstAt x (l.take (k + 1))) := fun x => by rw [HK.out]; exact FS j hq x
        have HQ : Hid (firstAt q (l.take k) = some j) := hq
        clear hq FS FN HK
        go_wp2_with fail
        refine (HSN.out _).mono ?_
        rintro e w2 ⟨rfl, hb2⟩
        obtain ⟨_, _, _, kb⟩ := hdr_room hb2
        have HM2 : Hid (NamesMap w2 w.heap.size k (fun x => firstAt x (l.take k))) := HM.out.below kb
        have HB2 : Hid (Below w.heap.size w w2) := hb.trans (kb.mono hb.size)
        clear hb2 kb hb HM p1 p3
        go_wp2_with (at_lookup; refine wpList_look_some _ rfl _ _ rfl w.heap.size k _ rfl HM2.out q rfl (by omega) j HQ.out ?_)
        go_roundw
        case rel => exact ⟨k + 1, by omega, by go_num, NamesMap.of (by obtain ⟨D, h1, h2⟩ := HM2.out; exact ⟨D, h1.mono (Nat.le_succ _), h2⟩) HX.out, HB2.out⟩
        case measure => simp [intOf]; omega
      | none =>
        have HX : Hid (∀ x, (if x = q then some k else firstAt x (l.take k)) = firstAt x (l.take (k + 1))) := fun x => by rw [HK.out]; exact FN hq x
        have HQ : Hid (firstAt q (l.take k) = none) := hq
        clear hq FS FN HK
        go_wp2_with fail
        refine (HSN.out _).mono ?_
        rintro e w2 ⟨rfl, hb2⟩
        obtain ⟨_, _, _, kb⟩ := hdr_room hb2
        have HM2 : Hid (NamesMap w2 w.heap.size k (fun x => firstAt x (l.take k))) := HM.out.below kb
        have HB2 : Hid (Below w.heap.size w w2) := hb.trans (kb.mono hb.size)
        clear hb2 kb hb HM p1 p3
        go_wp2_with (first | (at_lookup; refine wpList_look_none _ rfl _ _ rfl w.heap.size k _ rfl HM2.out q rfl (by omega) HQ.out ?_) | (at_mapUpdate; refine wpList_put _ rfl _ _ _ rfl w.heap.size k _ rfl HM2.out (by omega) q rfl (by omega) k (by omega) rfl w.heap.size (Nat.le_refl _) ?_; intro w3 HM3 hb3))
        go_roundw
        case rel => exact ⟨k + 1, by omega, by go_num, HM3.of HX.out, HB2.out.trans hb3⟩
        case measure => simp [intOf]; omega
    · have HX : Hid (NamesMap wr w.heap.size m (fun x => firstAt x l)) := by
        have e : l.take k = l := List.take_of_length_le (by have := HN.out; omega)
        have := HM.out
        rw [e] at this
        obtain ⟨D, h1, h2⟩ := this
        exact ⟨D, h1.mono (by omega), h2⟩
      clear HM
      go_wp2_with fail
      go_ret
      exact ⟨rfl, HX.out, hb⟩
/-- What is left of the lines: those whose names the map has. -/
def keptH (p : ByteArray → Option Nat) (l : List Hdr) : List Hdr := l.filter fun r => (p (lowS r.name)).isSome
theorem keptH_yes {p : ByteArray → Option Nat} {r : Hdr} {i : Nat} (l : List Hdr) (h : p (lowS r.name) = some i) : keptH p (l ++ [r]) = keptH p l ++ [r] := by simp [keptH, h]
theorem keptH_no {p : ByteArray → Option Nat} {r : Hdr} (l : List Hdr) (h : p (lowS r.name) = none) : keptH p (l ++ [r]) = keptH p l := by simp [keptH, h]
theorem keptH_len (p : ByteArray → Option Nat) (l : List Hdr) : (keptH p l).length ≤ l.length := List.length_filter_le _ _
def KeptRes (base : Nat) (L : List Hdr) (e : Ending) (w : World) : Prop := ∃ v, e = .returned v ∧ OwnH w base v L
theorem KeptRes.mk {base : Nat} {L M : List Hdr} {w : World} {v : Value} (h : M = L) (ho : OwnH w base v L) : KeptRes base M (.returned v) w := ⟨v, rfl, h ▸ ho⟩
end Go.Proofs.YtlbagfaiiileoaaGreatDoor
/-
  What DropHeader and its model answer.
-/
namespace Go.Proofs.YtlbagfaiiileoaaGreatDoor
open Go.ChangeShapes Go.WideShapes Go.ChangeAt Go.RowKit Go.Sort
/-- A result: a code and head lines in memory of the call's own. -/
def HRes (c : Int) (L : List Hdr) (base : Nat) (e : Ending) (w : World) : Prop := ∃ v, e = .returned (.agg #[.int .i64 c, v]) ∧ OwnH w base v L
theorem HRes.mk {c d : Int} {L M : List Hdr} {base : Nat} {w : World} {v : Value} (h : c = d ∧ L = M) (ho : OwnH w base v M) : HRes c L base (.returned (.agg #[.int .i64 d, v])) w := ⟨v, by rw [h.1], by rw [h.2]; exact ho⟩
theorem ownH_set {w : World} {base b o : Nat} {v u : Value} {l : List Hdr} (h : OwnH w base v l) (hb : b < base) : OwnH (w.setCell ⟨b, o, none⟩ u) base v l := by
  obtain ⟨h1, h2⟩ := h
  refine ⟨h1, ?_⟩
  rcases h2 with h2 | ⟨g, c, cur, e, hg, hh, hrest⟩
  · exact .inl h2
  · exact .inr ⟨g, c, cur, e, hg, by rw [RowKit.Below.heap_setCell _ _ _ _ (by show g ≠ b; omega)]; exact hh, hrest⟩
theorem dropL_bad {l : List Hdr} {name : ByteArray} (h : askC l name ≠ 0) : dropL l name = [] := by unfold dropL; rw [if_neg h]
theorem dropL_ok {l : List Hdr} {name : ByteArray} (h : askC l name = 0) : dropL l name = dropH (lowS name) l := by unfold dropL; rw [if_pos h]
theorem dropL_len (l : List Hdr) (name : ByteArray) : (dropL l name).length ≤ 20 := by
  by_cases h : askC l name = 0
  · rw [dropL_ok h]
    have := (headsC_zero (askC_zero h).1).1
    exact Nat.le_trans (dropH_len _ _) this
  · rw [dropL_bad h]; simp
theorem asked {l : List Hdr} {name : ByteArray} (h : askC l name = 0) : l.length ≤ 20 ∧ (∀ (i : Nat) r, l[i]? = some r → r.name.size ≤ 64 ∧ r.value.size ≤ 200) ∧ name.size ≤ 64 := by
  obtain ⟨h0, hw⟩ := askC_zero h
  obtain ⟨h20, hf⟩ := headsC_zero h0
  exact ⟨h20, fun i r hr => by obtain ⟨x1, x2, _⟩ := faultH_zero (hf i r hr); exact ⟨hword_max x1, x2⟩, hword_max hw⟩
theorem keptH_drop (x : ByteArray) (l : List Hdr) : keptH (fun y => if y = x then none else firstAt y l) l = dropH x l := by
  unfold keptH dropH
  refine List.filter_congr fun r hr => ?_
  by_cases e : lowS r.name = x
  · simp [e]
  · simp only [e, not_false_eq_true, decide_true]
    cases c : firstAt (lowS r.name) l with
    | some i => rfl
    | none => exact absurd rfl (firstAt_none c r hr)
end Go.Proofs.YtlbagfaiiileoaaGreatDoor
/-
  Results of head lines: compared, marked, held.
-/
namespace Go.Proofs.YtlbagfaiiileoaaGreatDoor
open Go.ChangeShapes Go.WideShapes Go.ChangeAt Go.RowKit Go.Sort
/-- A result in a variable. -/
structure HHRoom (w : World) (b : Nat) (c : Int) (v : Value) : Prop where
  c0 : w.cell? ⟨b, 0, none⟩ = some (.int .i64 c)
  c1 : w.cell? ⟨b, 1, none⟩ = some v
theorem HHRoom.lt {w : World} {b : Nat} {c : Int} {v : Value} (h : HHRoom w b c v) : b < w.heap.size := block_lt_of_cell h.c0
theorem HHRoom.keep {w w' : World} {b : Nat} {c : Int} {v : Value} (h : HHRoom w b c v) (hb : Below w.heap.size w w') : HHRoom w' b c v :=
  ⟨by rw [hb.cell (p := ⟨b, 0, none⟩) h.lt, h.c0], by rw [hb.cell (p := ⟨b, 1, none⟩) h.lt, h.c1]⟩
theorem HHRoom.av {w w' : World} {b : Nat} {c : Int} {v u : Value} (h : HHRoom w b c v) (k : HAV u w w') (hn : u.ownBlock ≠ some b) : HHRoom w' b c v :=
  ⟨by rw [k.cell b 0 h.lt hn, h.c0], by rw [k.cell b 1 h.lt hn, h.c1]⟩
theorem hroom_new (w : World) (c : Int) (a : Option Addr) (n cap : Nat) (t : TypeId) : HHRoom (w.alloc (.cells #[.int .i64 c, .slice a n cap] t)) w.heap.size c (.slice a n cap) := ⟨by simp, by simp⟩
theorem HLV.block_lt {w : World} {v : Value} {l : List Hdr} (h : HLV w v l) : ∀ b, v.ownBlock = some b → b < w.heap.size := by
  rcases h with ⟨rfl, _⟩ | ⟨g, c, rfl, hg, _⟩
  · intro b hb; cases hb
  · intro b hb; simp only [Value.ownBlock, Option.some.injEq] at hb; omega
/-- What a call hands back: head lines in memory of its own. -/
structure HGot (L : List Hdr) (base : Nat) (a : Option Addr) (n cap : Nat) (w : World) : Prop where
  len : n = L.length
  lv : HLV w (.slice a n cap) L
  ge : ∀ b, (Value.slice a n cap).ownBlock = some b → base ≤ b
theorem HRes.got {c : Int} {L : List Hdr} {base : Nat} {e : Ending} {w : World} (h : HRes c L base e w) : ∃ a n cap, e = .returned (.agg #[.int .i64 c, .slice a n cap]) ∧ HGot L base a n cap w := by
  obtain ⟨v, rfl, ho⟩ := h
  obtain ⟨a, c, rfl, _⟩ := ho.at
  exact ⟨a, _, c, rfl, rfl, ho.lv.1, ho.lv.2⟩
structure HMarkedR (w : World) (base : Nat) (a : Option Addr) (n ca : Nat) (w' : World) : Prop where
  lv : HLV w' (.slice a n ca) (mkHL 1 n)
  av : HAV (.slice a n ca) w w'
  low : Below base w w'
/-- Two results in variables, and their lines. -/
structure HKK (w : World) (X1 X2 : Nat) (c : Int) (v1 v2 : Value) (L1 L2 : List Hdr) (W : World) : Prop where
  b : Below w.heap.size w W
  r1 : HHRoom W X1 c v1
  r2 : HHRoom W X2 c v2
  l1 : HLV W v1 L1
  l2 : HLV W v2 L2
theorem HKK.keep {w : World} {X1 X2 : Nat} {c : Int} {v1 v2 : Value} {L1 L2 : List Hdr} {W W' : World} (h : HKK w X1 X2 c v1 v2 L1 L2 W) (hb : Below W.heap.size W W') : HKK w X1 X2 c v1 v2 L1 L2 W' :=
  ⟨h.b.trans (hb.mono h.b.size), h.r1.keep hb, h.r2.keep hb, h.l1.below hb, h.l2.below hb⟩
theorem HKK.av {w : World} {X1 X2 : Nat} {c : Int} {v1 v2 u : Value} {L1 L2 : List Hdr} {W W' : World} (h : HKK w X1 X2 c v1 v2 L1 L2 W) (k : HAV u W W') (hb : Below w.heap.size W W') (h1 : u.ownBlock ≠ some X1) (h2 : u.ownBlock ≠ some X2) (h3 : ∀ b, v1.ownBlock = some b → u.ownBlock ≠ some b) (h4 : ∀ b, v2.ownBlock = some b → u.ownBlock ≠ some b) : HKK w X1 X2 c v1 v2 L1 L2 W' :=
  ⟨h.b.trans hb, h.r1.av k h1, h.r2.av k h2, h.l1.av k h3, h.l2.av k h4⟩
/-- Lines of the law's own, that may be written. -/
structure HMine (W : World) (B : Nat) (l : List Hdr) : Prop where
  at0 : HeadsAt W B 0 l
  free : ∀ o, W.frozen? ⟨B, o, none⟩ = false
  lt : B < W.heap.size
theorem HMine.keep {W W' : World} {B : Nat} {l : List Hdr} (h : HMine W B l) (hb : Below W.heap.size W W') : HMine W' B l :=
  ⟨h.at0.keep hb, fun o => by rw [hb.frozen (p := ⟨B, o, none⟩) h.lt]; exact h.free o, Nat.lt_of_lt_of_le h.lt hb.size⟩
theorem HMine.mark {W : World} {B base : Nat} {l : List Hdr} (h : HMine W B l) (hl : l.length ≤ 1048576) (hb : base ≤ B) : ∃ q : Int, ¬ q < 0 ∧ Calls Tryz.prog 143 #[.slice (some ⟨B, 0, none⟩) l.length l.length, .int .i64 1] W fun e w' => e = .returned (.int .i64 q) ∧ HAV (.slice (some ⟨B, 0, none⟩) l.length l.length) W w' ∧ Below base W w' :=
  ⟨((1 + 2 * l.length : Nat) : Int), by omega, (markHeaderS_lv W (.slice (some ⟨B, 0, none⟩) l.length l.length) l hl (.inr ⟨B, _, rfl, h.lt, h.at0, h.free⟩) base (fun q hq => by simp only [Value.ownBlock, Option.some.injEq] at hq; omega) (by have := h.lt; omega)).mono fun _ _ ⟨h1, _, h3, h4⟩ => ⟨h1, h3, h4⟩⟩
end Go.Proofs.YtlbagfaiiileoaaGreatDoor
/-
  Rows of texts as a value: compared, marked, held.
-/
namespace Go.Proofs.YtlbagfaiiileoaaGreatDoor
open Go.ChangeShapes Go.WideShapes Go.ChangeAt Go.RowKit Go.Sort
def mkTL (k n : Nat) : List ByteArray := (List.range n).map fun j => mkT (k + j)
theorem mkTL_len (k n : Nat) : (mkTL k n).length = n := by simp [mkTL]
theorem mkTL_get {k n i : Nat} (h : i < n) : (mkTL k n)[i]? = some (mkT (k + i)) := by simp [mkTL, h]
theorem tput {w : World} {g off i : Nat} {L : List ByteArray} {r : ByteArray} (h : TAt w g off L) (hr : L[i]? = some r) (n : ByteArray) : TAt (w.setCell ⟨g, off + i, none⟩ (.string n)) g off (L.set i n) := by
  intro j q hq
  by_cases e : j = i
  · subst e
    have hl := (List.getElem?_eq_some_iff.1 hr).1
    rw [List.getElem?_set_self hl] at hq
    obtain rfl := Option.some.inj hq
    exact hcell_set_same (h j r hr)
  · rw [List.getElem?_set_ne (fun k => e k.symm)] at hq
    rw [hcell_set_off (by omega)]
    exact h j q hq
/-- The state of the marking loop: j texts are marked. -/
structure TMarked (w : World) (g off : Nat) (k n j : Nat) (L : List ByteArray) (W : World) : Prop where
  len : L.length = n
  done : ∀ i, i < j → L[i]? = some (mkT (k + i))
  items : TAt W g off L
  thaw : ∀ o, W.frozen? ⟨g, o, none⟩ = false
  apart : Apart g w W
  low : Below g w W
  lt : g < W.heap.size
theorem TMarked.below {w : World} {g off k n j : Nat} {L : List ByteArray} {W W' : World} (h : TMarked w g off k n j L W) (hb : Below W.heap.size W W') : TMarked w g off k n j L W' :=
  ⟨h.len, h.done, h.items.keep hb, fun o => by rw [hb.frozen (p := ⟨g, o, none⟩) h.lt, h.thaw], h.apart.trans (.below hb), h.low.trans (hb.mono (Nat.le_of_lt h.lt)), Nat.lt_of_lt_of_le h.lt hb.size⟩
theorem TMarked.set {w : World} {g off k n j : Nat} {L : List ByteArray} {W : World} {r : ByteArray} (h : TMarked w g off k n j L W) (hr : L[j]? = some r) : TMarked w g off k n (j + 1) (L.set j (mkT (k + j))) (W.setCell ⟨g, off + j, none⟩ (.string (mkT (k + j)))) := by
  refine ⟨by rw [List.length_set]; exact h.len, fun i hi => ?_, tput h.items hr _, fun o => by rw [World.frozen?_setCell, h.thaw], h.apart.trans (.set _ _ _ _), h.low.setCell (Nat.le_refl _) _, by simpa using h.lt⟩
  by_cases e : i = j
  · subst e; exact List.getElem?_set_self (List.getElem?_eq_some_iff.1 hr).1
  · rw [List.getElem?_set_ne (fun k => e k.symm)]; exact h.done i (by omega)
set_option maxRecDepth 100000 in
set_option maxHeartbeats 4000000 in
theorem markStringS_any (w : World) (g off cap n k : Nat) (l : List ByteArray) (hn : l.length = n) (hn2 : n ≤ 1048576) (hk0 : 1 ≤ k) (hk1 : k ≤ 100000000000000) (hi : TAt w g off l) (hf : ∀ o, w.frozen? ⟨g, o, none⟩ = false) (hg : g < w.heap.size) :
    Calls Tryz.prog 65 #[.slice (some ⟨g, off, none⟩) n cap, .int .i64 (k : Int)] w fun e w' => e = .returned (.int .i64 ((k + n : Nat) : Int)) ∧ TAt w' g off (mkTL k n) ∧ Apart g w w' ∧ Below g w w' ∧ ∀ o, w'.frozen? ⟨g, o, none⟩ = false := by
  have HST : Hid (TMarked w g off k n 0 l w) := ⟨hn, fun i h => by omega, hi, hf, .refl _ _, Below.refl _ _, hg⟩
  clear hi hf hg hn
  go_enter Tryz.func65, Tryz.ntmps65
  go_wp2_with fail
  go_loopw [1, 5] (fun x i wr => ∃ (j : Nat) (L : List ByteArray), j ≤ n ∧ i = .int .i64 (j : Int) ∧ x = .int .i64 ((k + j : Nat) : Int) ∧ TMarked w g off k n j L wr) (fun _ i _ => n - (intOf i).toNat)
  case atStart => exact ⟨0, l, Nat.zero_le _, rfl, rfl, HST.out⟩
  case round =>
    obtain ⟨j, L, hj, rfl, rfl, hm⟩ := hrel
    have HM : Hid (TMarked w g off k n j L wr) := hm
    clear hm HST
    by_cases hlt : j < n
    · obtain ⟨r, hr⟩ : ∃ r, L[j]? = some r := ⟨L[j]'(by have := HM.out.len; omega), List.getElem?_eq_getElem _⟩
      have HR : Hid (L[j]? = some r) := hr
      clear hr
      have g0 : (0 : Int) ≤ j := by omega
      have g1 : (j : Int) < n := by omega
      have HT1 : Hid (∀ w, Calls Tryz.prog 128 #[.int .i64 ((k + j : Nat) : Int)] w fun e w' => e = .returned (.string (mkT (k + j))) ∧ Below w.heap.size w w') := markText_any (k + j) (by omega) (by omega)
      go_wp2_with fail
      refine (HT1.out _).mono ?_
      rintro e w1 ⟨rfl, hb1⟩
      have HM1 : Hid (TMarked w g off k n j L w1) := HM.out.below hb1
      clear hb1 HM
      have p1 := HM1.out.items j r HR.out
      have f1 := HM1.out.thaw (off + j)
      have HM7 : Hid (TMarked w g off k n (j + 1) (L.set j (mkT (k + j))) (w1.setCell ⟨g, off + j, none⟩ (.string (mkT (k + j))))) := HM1.out.set HR.out
      clear HM1
      go_wp2_with fail
      go_roundw
      case rel => exact ⟨j + 1, _, by omega, by go_num, by congr 1, HM7.out⟩
      case measure => simp [intOf]; omega
    · obtain rfl : j = n := by omega
      have HX : Hid (TAt wr g off (mkTL k j)) := by
        have e : L = mkTL k j := by
          apply List.ext_getElem?
          intro i
          by_cases hi : i < j
          · rw [HM.out.done i hi, mkTL_get hi]
          · rw [List.getElem?_eq_none (by have := HM.out.len; omega), List.getElem?_eq_none (by rw [mkTL_len]; omega)]
        show TAt _ _ _ _
        rw [← e]
        exact HM.out.items
      go_wp2_with fail
      go_ret
      exact ⟨rfl, HX.out, HM.out.apart, HM.out.low, HM.out.thaw⟩
set_option maxRecDepth 100000 in
set_option maxHeartbeats 4000000 in
theorem heldStringS_any (w : World) (g off cap n k : Nat) (hn2 : n ≤ 1048576) (hk0 : 1 ≤ k) (hk1 : k ≤ 100000000000000) (hi : TAt w g off (mkTL k n)) :
    Calls Tryz.prog 193 #[.slice (some ⟨g, off, none⟩) n cap, .int .i64 (k : Int)] w fun e w' => e = .returned (.int .i64 ((k + n : Nat) : Int)) ∧ Below w.heap.size w w' := by
  have HI : Hid (TAt w g off (mkTL k n)) := hi
  clear hi
  go_enter Tryz.func193, Tryz.ntmps193
  go_wp2_with fail
  go_loopw [1, 5] (fun x i wr => ∃ (j : Nat), j ≤ n ∧ i = .int .i64 (j : Int) ∧ x = .int .i64 ((k + j : Nat) : Int) ∧ Below w.heap.size w wr) (fun _ i _ => n - (intOf i).toNat)
  case atStart => exact ⟨0, Nat.zero_le _, rfl, rfl, Below.refl _ _⟩
  case round =>
    obtain ⟨j, hj, rfl, rfl, hb⟩ := hrel
    have KB : Hid (Below w.heap.size w wr) := hb
    clear hb
    by_cases hlt : j < n
    · have q1 := (HI.out.keep KB.out) j _ (mkTL_get hlt)
      have g0 : (0 : Int) ≤ j := by omega
      have g1 : (j : Int) < n := by omega
      have HT1 : Hid (∀ w, Calls Tryz.prog 128 #[.int .i64 ((k : Int) + j)] w fun e w' => e = .returned (.string (mkT (k + j))) ∧ Below w.heap.size w w') := by
        have := markText_any (k + j) (by omega) (by omega)
        rw [show ((k + j : Nat) : Int) = (k : Int) + j by omega] at this
        exact this
      generalize mkT (k + j) = t1 at *
      have x1 := cell_regrown q1
      clear q1
      have cE : ∀ d os, Calls Tryz.prog 128 #[.int .i64 ((k : Int) + j)] (grow (redrawn wr d) os) fun e w'' => e = .returned (.string t1) ∧ ∃ p : Regrown, w'' = grow (redrawn wr p.d) p.os := fun d os => Calls.regrown_of (HT1.out _)
      go_wp2_with fail
      refine wp_region_quiet_below (by kernel_rfl) (by kernel_rfl) ?_
      repeat (go_big_quiet_step ((go_at_call 128; exact cE _ _)))
      refine wpQuiet_nil ?_
      intro w3 hw3
      have KB3 : Hid (Below w.heap.size w w3) := by
        obtain ⟨⟨d, os⟩, rfl⟩ := hw3
        exact KB.out.trans ((below_regrown wr d os).mono KB.out.size)
      clear x1 cE hw3 KB
      go_wp2_with fail
      go_roundw
      case rel => exact ⟨j + 1, by omega, by go_num, by congr 1, KB3.out⟩
      case measure => simp [intOf]; omega
    · obtain rfl : j = n := by omega
      go_wp2_with fail
      go_ret
      exact ⟨rfl, KB.out⟩
def TLV (w : World) (v : Value) (l : List ByteArray) : Prop :=
  (v = .slice none 0 0 ∧ l = []) ∨ ∃ g cap, v = .slice (some ⟨g, 0, none⟩) l.length cap ∧ g < w.heap.size ∧ TAt w g 0 l ∧ ∀ o, w.frozen? ⟨g, o, none⟩ = false
theorem OwnS.lv {w : World} {base : Nat} {v : Value} {l : List ByteArray} (h : OwnS w base v l) : TLV w v l ∧ ∀ b, v.ownBlock = some b → base ≤ b := by
  have h0 := h
  obtain ⟨_, h1 | ⟨g, c, cur, rfl, hg, hh, _⟩⟩ := h
  · have e : l = [] := List.eq_nil_of_length_eq_zero h1.2
    exact ⟨.inl ⟨h1.1, e⟩, fun b hb => by rw [h1.1] at hb; cases hb⟩
  · refine ⟨.inr ⟨g, c, rfl, (Array.getElem?_eq_some_iff.1 hh).1, fun i x hx => ?_, fun o => ?_⟩, fun b hb => ?_⟩
    · have hk := (List.getElem?_eq_some_iff.1 hx).1
      have := World.ownsRow.cellAt h0 i (by omega)
      rw [Nat.zero_add, this]
      simp [textsW, hx]
    · simp [World.frozen?, hh]
    · simp only [Value.ownBlock, Option.some.injEq] at hb; omega
theorem TLV.below {w w' : World} {v : Value} {l : List ByteArray} (h : TLV w v l) (hb : Below w.heap.size w w') : TLV w' v l := by
  rcases h with h | ⟨g, c, e, hg, hi, hf⟩
  · exact .inl h
  · exact .inr ⟨g, c, e, Nat.lt_of_lt_of_le hg hb.size, hi.keep hb, fun o => by rw [hb.frozen (p := ⟨g, o, none⟩) hg, hf]⟩
theorem TLV.av {w w' : World} {v v1 : Value} {l : List ByteArray} (h : TLV w v1 l) (k : HAV v w w') (hne : ∀ b, v1.ownBlock = some b → v.ownBlock ≠ some b) : TLV w' v1 l := by
  rcases h with h | ⟨g, c, rfl, hg, hi, hf⟩
  · exact .inl h
  · have hn := hne g rfl
    exact .inr ⟨g, c, rfl, Nat.lt_of_lt_of_le hg k.size, fun i r hr => by rw [k.cell g _ hg hn]; exact hi i r hr, fun o => by rw [k.frozen g o hg hn, hf]⟩
theorem TLV.tin {w : World} {v : Value} {l : List ByteArray} (h : TLV w v l) : ∃ a c, v = .slice a l.length c ∧ TIn w a l := by
  rcases h with ⟨rfl, rfl⟩ | ⟨g, c, rfl, _, hi, _⟩
  · exact ⟨none, 0, rfl, .inl rfl⟩
  · exact ⟨_, c, rfl, .inr ⟨g, 0, rfl, hi⟩⟩
theorem eqStringS_lv (w : World) (v1 v2 : Value) (l : List ByteArray) (hl : l.length ≤ 1048576) (h1 : TLV w v1 l) (h2 : TLV w v2 l) :
    Calls Tryz.prog 62 #[v1, v2] w fun e w' => e = .returned (.bool true) ∧ Below w.heap.size w w' := by
  obtain ⟨a1, c1, rfl, t1⟩ := h1.tin
  obtain ⟨a2, c2, rfl, t2⟩ := h2.tin
  exact eqStringS_same w a1 a2 c1 c2 l hl t1 t2
set_option maxHeartbeats 1000000 in
theorem markStringS_nil (w : World) (a : Option Addr) (c k : Nat) :
    Calls Tryz.prog 65 #[.slice a 0 c, .int .i64 (k : Int)] w fun e w' => e = .returned (.int .i64 (k : Int)) ∧ Below w.heap.size w w' := by
  go_enter Tryz.func65, Tryz.ntmps65
  go_wp2_with fail
  go_loop [1, 5] (fun x i => x = .int .i64 (k : Int) ∧ i = .int .i64 0) (fun _ _ => 0)
  case atStart => exact ⟨rfl, rfl⟩
  case round =>
    obtain ⟨rfl, rfl⟩ := hrel
    go_wp2_with fail
    go_ret
    exact ⟨rfl, Below.refl _ _⟩
set_option maxHeartbeats 1000000 in
theorem heldStringS_nil (w : World) (a : Option Addr) (c k : Nat) :
    Calls Tryz.prog 193 #[.slice a 0 c, .int .i64 (k : Int)] w fun e w' => e = .returned (.int .i64 (k : Int)) ∧ Below w.heap.size w w' := by
  go_enter Tryz.func193, Tryz.ntmps193
  go_wp2_with fail
  go_loop [1, 5] (fun x i => x = .int .i64 (k : Int) ∧ i = .int .i64 0) (fun _ _ => 0)
  case atStart => exact ⟨rfl, rfl⟩
  case round =>
    obtain ⟨rfl, rfl⟩ := hrel
    go_wp2_with fail
    go_ret
    exact ⟨rfl, Below.refl _ _⟩
theorem markStringS_lv (w : World) (v : Value) (l : List ByteArray) (hl : l.length ≤ 1048576) (h : TLV w v l) (base : Nat) (hb : ∀ b, v.ownBlock = some b → base ≤ b) (hbs : base ≤ w.heap.size) :
    Calls Tryz.prog 65 #[v, .int .i64 1] w fun e w' => e = .returned (.int .i64 ((1 + l.length : Nat) : Int)) ∧ TLV w' v (mkTL 1 l.length) ∧ HAV v w w' ∧ Below base w w' := by
  rcases h with ⟨rfl, rfl⟩ | ⟨g, c, rfl, hg, hi, hf⟩
  · exact (markStringS_nil w none 0 1).mono fun _ _ ⟨h1, h2⟩ => ⟨h1, .inl ⟨rfl, rfl⟩, .below h2, h2.mono hbs⟩
  · refine (markStringS_any w g 0 c l.length 1 l rfl hl (by omega) (by omega) hi hf hg).mono ?_
    rintro e w' ⟨h1, h2, h3, h4, h5⟩
    have hne : ∀ b, (Value.slice (some ⟨g, 0, none⟩) l.length c).ownBlock ≠ some b → b ≠ g := fun b hb e => hb (by subst e; rfl)
    refine ⟨h1, ?_, ⟨h3.size, fun b o hb hn => h3.cell b o hb (hne b hn), fun b o hb hn => h3.frozen b o hb (hne b hn)⟩, h4.mono (hb g rfl)⟩
    exact .inr ⟨g, c, by rw [mkTL_len], Nat.lt_of_lt_of_le hg h3.size, h2, h5⟩
theorem heldStringS_lv (w : World) (v : Value) (n : Nat) (hl : n ≤ 1048576) (h : TLV w v (mkTL 1 n)) :
    Calls Tryz.prog 193 #[v, .int .i64 1] w fun e w' => e = .returned (.int .i64 ((1 + n : Nat) : Int)) ∧ Below w.heap.size w w' := by
  rcases h with ⟨rfl, h0⟩ | ⟨g, c, rfl, _, hi, _⟩
  · have e := congrArg List.length h0
    rw [mkTL_len] at e
    simp at e
    subst e
    exact heldStringS_nil w none 0 1
  · rw [mkTL_len]
    exact heldStringS_any w g 0 c n 1 hl (by omega) (by omega) hi
theorem TLV.block_lt {w : World} {v : Value} {l : List ByteArray} (h : TLV w v l) : ∀ b, v.ownBlock = some b → b < w.heap.size := by
  rcases h with ⟨rfl, _⟩ | ⟨g, c, rfl, hg, _⟩
  · intro b hb; cases hb
  · intro b hb; simp only [Value.ownBlock, Option.some.injEq] at hb; omega
/-- What a call hands back: texts in memory of its own. -/
structure TGot (L : List ByteArray) (base : Nat) (a : Option Addr) (n cap : Nat) (w : World) : Prop where
  len : n = L.length
  lv : TLV w (.slice a n cap) L
  ge : ∀ b, (Value.slice a n cap).ownBlock = some b → base ≤ b
def TRes (c : Int) (L : List ByteArray) (base : Nat) (e : Ending) (w : World) : Prop := ∃ v, e = .returned (.agg #[.int .i64 c, v]) ∧ OwnS w base v L
theorem TRes.got {c : Int} {L : List ByteArray} {base : Nat} {e : Ending} {w : World} (h : TRes c L base e w) : ∃ a n cap, e = .returned (.agg #[.int .i64 c, .slice a n cap]) ∧ TGot L base a n cap w := by
  obtain ⟨v, rfl, ho⟩ := h
  obtain ⟨a, c, rfl, _⟩ := ho.lv.1.tin
  exact ⟨a, _, c, rfl, rfl, ho.lv.1, ho.lv.2⟩
structure TMarkedR (w : World) (base : Nat) (a : Option Addr) (n ca : Nat) (w' : World) : Prop where
  lv : TLV w' (.slice a n ca) (mkTL 1 n)
  av : HAV (.slice a n ca) w w'
  low : Below base w w'
/-- Two results in variables, and their lines. -/
structure TKK (w : World) (X1 X2 : Nat) (c : Int) (v1 v2 : Value) (L1 L2 : List ByteArray) (W : World) : Prop where
  b : Below w.heap.size w W
  r1 : HHRoom W X1 c v1
  r2 : HHRoom W X2 c v2
  l1 : TLV W v1 L1
  l2 : TLV W v2 L2
theorem TKK.keep {w : World} {X1 X2 : Nat} {c : Int} {v1 v2 : Value} {L1 L2 : List ByteArray} {W W' : World} (h : TKK w X1 X2 c v1 v2 L1 L2 W) (hb : Below W.heap.size W W') : TKK w X1 X2 c v1 v2 L1 L2 W' :=
  ⟨h.b.trans (hb.mono h.b.size), h.r1.keep hb, h.r2.keep hb, h.l1.below hb, h.l2.below hb⟩
theorem TKK.av {w : World} {X1 X2 : Nat} {c : Int} {v1 v2 u : Value} {L1 L2 : List ByteArray} {W W' : World} (h : TKK w X1 X2 c v1 v2 L1 L2 W) (k : HAV u W W') (hb : Below w.heap.size W W') (h1 : u.ownBlock ≠ some X1) (h2 : u.ownBlock ≠ some X2) (h3 : ∀ b, v1.ownBlock = some b → u.ownBlock ≠ some b) (h4 : ∀ b, v2.ownBlock = some b → u.ownBlock ≠ some b) : TKK w X1 X2 c v1 v2 L1 L2 W' :=
  ⟨h.b.trans hb, h.r1.av k h1, h.r2.av k h2, h.l1.av k h3, h.l2.av k h4⟩
end Go.Proofs.YtlbagfaiiileoaaGreatDoor
/-
  Results that hold bytes: owned, compared, marked, held.
-/
namespace Go.Proofs.YtlbagfaiiileoaaGreatDoor
open Go.ChangeShapes Go.WideShapes Go.ChangeAt Go.RowKit
structure Two (W : World) (B : Nat) (v0 v1 : Value) : Prop where
  c0 : W.cell? ⟨B, 0, none⟩ = some v0
  c1 : W.cell? ⟨B, 1, none⟩ = some v1
  fr : ∀ o, W.frozen? ⟨B, o, none⟩ = false
  lt : B < W.heap.size
theorem Two.keep {W W' : World} {B : Nat} {v0 v1 : Value} (h : Two W B v0 v1) (hb : Below W.heap.size W W') : Two W' B v0 v1 :=
  ⟨by rw [hb.cell (p := ⟨B, 0, none⟩) h.lt]; exact h.c0, by rw [hb.cell (p := ⟨B, 1, none⟩) h.lt]; exact h.c1, fun o => by rw [hb.frozen (p := ⟨B, o, none⟩) h.lt]; exact h.fr o, Nat.lt_of_lt_of_le h.lt hb.size⟩
theorem Two.new (W : World) (v0 v1 : Value) (t : TypeId) : Two (W.alloc (.cells #[v0, v1] t)) W.heap.size v0 v1 :=
  ⟨by rw [World.cell?_alloc_mark]; rfl, by rw [World.cell?_alloc_mark]; rfl, fun o => by have e := heap_alloc_new W (.cells #[v0, v1] t); unfold World.frozen?; rw [e]; simp, by simp⟩
/-- v holds the bytes l in a row of its own, from block base on; or it is nil and there are none. -/
def BOwn (w : World) (base : Nat) (v : Value) (l : List UInt8) : Prop := (v = .slice none 0 0 ∧ l = []) ∨ ∃ g k, v = .slice (some ⟨g, 0, none⟩) l.length k ∧ base ≤ g ∧ BMine w g l
theorem BOwn.keep {w w' : World} {base : Nat} {v : Value} {l : List UInt8} (h : BOwn w base v l) (hb : Below w.heap.size w w') : BOwn w' base v l := by
  rcases h with h | ⟨g, k, e, hg, hm⟩
  · exact .inl h
  · exact .inr ⟨g, k, e, hg, hm.keep hb⟩
theorem BOwn.lower {w : World} {b0 base : Nat} {v : Value} {l : List UInt8} (h : BOwn w base v l) (hb : b0 ≤ base) : BOwn w b0 v l := by
  rcases h with h | ⟨g, k, e, hg, hm⟩
  · exact .inl h
  · exact .inr ⟨g, k, e, Nat.le_trans hb hg, hm⟩
theorem BOwn.shape {w : World} {base : Nat} {v : Value} {l : List UInt8} (h : BOwn w base v l) : ∃ a k, v = .slice a l.length k ∧ BIn w a l := by
  rcases h with ⟨rfl, rfl⟩ | ⟨g, k, rfl, hg, hm⟩
  · exact ⟨none, 0, rfl, .inl rfl⟩
  · exact ⟨_, _, rfl, hm.in⟩
theorem BOwn.block {w : World} {base : Nat} {v : Value} {l : List UInt8} (h : BOwn w base v l) : ∀ b, v.ownBlock = some b → base ≤ b ∧ b < w.heap.size := by
  rcases h with ⟨rfl, _⟩ | ⟨g, k, rfl, hg, hm⟩
  · intro b hb; cases hb
  · intro b hb; simp only [Value.ownBlock, Option.some.injEq] at hb; subst hb; exact ⟨hg, hm.lt⟩
/-- What a call hands back: a code, and bytes of its own. -/
def BGot (c : Int) (l : List UInt8) (base : Nat) (e : Ending) (w : World) : Prop := ∃ a n k, e = .returned (.agg #[.int .i64 c, .slice a n k]) ∧ BOwn w base (.slice a n k) l
theorem BGot.nil (c : Int) (base : Nat) (w : World) : BGot c [] base (.returned (.agg #[.int .i64 c, .slice none 0 0])) w := ⟨none, 0, 0, rfl, .inl ⟨rfl, rfl⟩⟩
/-- A text turned into bytes. -/
theorem bytes_of_text (w : World) (s : ByteArray) : ∃ C cap, (convert 9 159 (.string s)).run Tryz.prog w = .ok (.slice (some ⟨w.heap.size, 0, none⟩) s.size cap) (w.drew.alloc (.cells C 5 (C.size, C.size + 1))) ∧ BMine (w.drew.alloc (.cells C 5 (C.size, C.size + 1))) w.heap.size s.data.toList := by
  have h1 := run_bytes_of_string (P := Tryz.prog) w 9 159 5 s Tryz.underlying9 Tryz.underlying159 Tryz.underlying5
  have h2 := fun cap => BRow.made w s cap _ rfl
  refine ⟨_, _, h1, ?_⟩
  have h3 := h2 (grownCap w s.size 0 5)
  refine ⟨fun i c hc => ?_, fun o ho => ?_, ?_⟩
  · obtain ⟨hi, rfl⟩ := List.getElem?_eq_some_iff.1 hc
    rw [Nat.zero_add]
    exact h3.cell i hi
  · exact h3.free o ho
  · show w.heap.size < (w.drew.heap.push _).size
    rw [Array.size_push]; exact Nat.lt_succ_self _
end Go.Proofs.YtlbagfaiiileoaaGreatDoor
/-
  Results that hold bytes: compared, marked, held.
-/
namespace Go.Proofs.YtlbagfaiiileoaaGreatDoor
open Go.ChangeShapes Go.WideShapes Go.ChangeAt Go.RowKit Go.Sort
/-- All that was there, but for the memory of v, is as it was. -/
structure BAV (v : Value) (w w' : World) : Prop where
  size : w'.heap.size = w.heap.size
  cell : ∀ b o, b < w.heap.size → v.ownBlock ≠ some b → w'.cell? ⟨b, o, none⟩ = w.cell? ⟨b, o, none⟩
  frozen : ∀ b o, w'.frozen? ⟨b, o, none⟩ = w.frozen? ⟨b, o, none⟩
/-- v holds the marks from k on. -/
def MarkB (w : World) (v : Value) (k n : Nat) : Prop := n = 0 ∨ ∃ g c, v = .slice (some ⟨g, 0, none⟩) n c ∧ g < w.heap.size ∧ ∀ i, i < n → w.cell? ⟨g, i, none⟩ = some (.int .u8 (((k + i : Nat) : Int) % 256))
theorem MarkB.keep {w w' : World} {v : Value} {k n : Nat} (h : MarkB w v k n) (hb : Below w.heap.size w w') : MarkB w' v k n := by
  rcases h with h | ⟨g, c, e, hg, hc⟩
  · exact .inl h
  · exact .inr ⟨g, c, e, Nat.lt_of_lt_of_le hg hb.size, fun i hi => by rw [hb.cell (p := ⟨g, i, none⟩) hg]; exact hc i hi⟩
theorem MarkB.av {w w' : World} {v u : Value} {k n : Nat} (h : MarkB w v k n) (ha : BAV u w w') (hne : ∀ b, v.ownBlock = some b → u.ownBlock ≠ some b) : MarkB w' v k n := by
  rcases h with h | ⟨g, c, rfl, hg, hc⟩
  · exact .inl h
  · exact .inr ⟨g, c, rfl, by rw [ha.size]; exact hg, fun i hi => by rw [ha.cell g i hg (hne g rfl)]; exact hc i hi⟩
set_option maxHeartbeats 2000000 in
theorem markByteS_row (W : World) (g n cap k base : Nat) (hn : n ≤ 1048576) (hk : k ≤ 100000000000000) (hbase : base ≤ g) (hg : g < W.heap.size) (hm : HRoom W g n) :
    Calls Tryz.prog 202 #[.slice (some ⟨g, 0, none⟩) n cap, .int .i64 (k : Int)] W fun e w' => e = .returned (.int .i64 ((k + n : Nat) : Int)) ∧ (MarkB w' (.slice (some ⟨g, 0, none⟩) n cap) k n ∧ BAV (.slice (some ⟨g, 0, none⟩) n cap) W w' ∧ Below base W w') := by
  have HM : Hid (HRoom W g n) := hm
  clear hm
  go_enter Tryz.func202, Tryz.ntmps202
  go_wp2_with fail
  go_loopw [1, 5] (fun x i wr => ∃ j : Nat, j ≤ n ∧ i = .int .i64 (j : Int) ∧ x = .int .i64 ((k + j : Nat) : Int) ∧ HRoom wr g n ∧ (∀ q, q < j → wr.cell? ⟨g, q, none⟩ = some (.int .u8 (((k + q : Nat) : Int) % 256))) ∧ BAV (.slice (some ⟨g, 0, none⟩) n cap) W wr ∧ Below base W wr) (fun _ i _ => n - (intOf i).toNat)
  case atStart => exact ⟨0, Nat.zero_le _, rfl, rfl, HM.out, fun q hq => absurd hq (by omega), ⟨rfl, fun _ _ _ _ => rfl, fun _ _ => rfl⟩, Below.refl _ _⟩
  case round =>
    obtain ⟨j, hj, rfl, rfl, hroom, hcells, hav, hb⟩ := hrel
    clear HM
    by_cases hlt : j < n
    · obtain ⟨⟨u, hu⟩, hf⟩ := hroom j hlt
      have H1 : Hid (HRoom wr g n ∧ (∀ q, q < j → wr.cell? ⟨g, q, none⟩ = some (.int .u8 (((k + q : Nat) : Int) % 256))) ∧ BAV (.slice (some ⟨g, 0, none⟩) n cap) W wr ∧ Below base W wr) := ⟨hroom, hcells, hav, hb⟩
      have hw : IntKind.i64.wrap ((k + j : Nat) + 1 : Int) = ((k + (j + 1) : Nat) : Int) := by
        rw [show (((k + j : Nat) : Int) + 1) = ((k + (j + 1) : Nat) : Int) from by omega]
        unfold IntKind.wrap; simp [IntKind.signed, IntKind.bits]; omega
      have g1 : (j : Int) < n := by omega
      have HJ : Hid (((k + (j + 1) : Nat) : Int) = ((k + (j + 1) : Nat) : Int)) := rfl
      clear hroom hcells hav hb
      obtain ⟨K, hK⟩ : ∃ K : Int, K = ((k + j : Nat) : Int) := ⟨_, rfl⟩
      have HK : Hid (K = ((k + j : Nat) : Int)) := hK
      rw [← hK] at hw ⊢
      clear hK
      go_wp2_with fail
      refine ⟨⟨j + 1, by omega, by congr 1, by congr 1, ?_⟩, by simp [intOf]; omega⟩
      obtain ⟨hroom, hcells, hav, hb⟩ := H1.out
      rw [HK.out]
      refine ⟨hroom.set _ _, fun q hq => ?_, ⟨by simpa using hav.size, fun b o hb0 hne => ?_, fun b o => by rw [World.frozen?_setCell]; exact hav.frozen b o⟩, hb.setCell hbase _⟩
      · by_cases e : q = j
        · subst e; exact World.cell?_setCell_same _ _ _ hu
        · rw [World.cell?_setCell_other _ _ _ _ (hoff_ne (by omega))]; exact hcells q (by omega)
      · have hbg : b ≠ g := fun e => hne (by subst e; rfl)
        rw [World.cell?_setCell_other _ _ _ _ (fun e => hbg (congrArg Addr.block e).symm)]
        exact hav.cell b o hb0 hne
    · have ej : j = n := by omega
      subst ej
      have HF : Hid (MarkB wr (.slice (some ⟨g, 0, none⟩) j cap) k j ∧ BAV (.slice (some ⟨g, 0, none⟩) j cap) W wr ∧ Below base W wr) := ⟨.inr ⟨g, cap, rfl, by rw [hav.size]; exact hg, hcells⟩, hav, hb⟩
      clear hcells hav hb hroom
      obtain ⟨K, hK⟩ : ∃ K : Int, K = ((k + j : Nat) : Int) := ⟨_, rfl⟩
      have HK : Hid (K = ((k + j : Nat) : Int)) := hK
      rw [← hK]
      clear hK
      go_wp2_with fail
      go_ret
      exact ⟨ret_int (by rw [HK.out]), HF.out⟩
set_option maxHeartbeats 2000000 in
theorem heldByteS_row (W : World) (g n cap k : Nat) (hn : n ≤ 1048576) (hk : k ≤ 100000000000000) (hc : ∀ i, i < n → W.cell? ⟨g, i, none⟩ = some (.int .u8 (((k + i : Nat) : Int) % 256))) :
    Calls Tryz.prog 239 #[.slice (some ⟨g, 0, none⟩) n cap, .int .i64 (k : Int)] W fun e w' => e = .returned (.int .i64 ((k + n : Nat) : Int)) ∧ w' = W := by
  have HC : Hid (∀ i, i < n → W.cell? ⟨g, i, none⟩ = some (.int .u8 (((k + i : Nat) : Int) % 256))) := hc
  clear hc
  go_enter Tryz.func239, Tryz.ntmps239
  go_wp2_with fail
  go_loop [1, 5] (fun x i => ∃ j : Nat, j ≤ n ∧ i = .int .i64 (j : Int) ∧ x = .int .i64 ((k + j : Nat) : Int)) (fun _ i => n - (intOf i).toNat)
  case atStart => exact ⟨0, Nat.zero_le _, rfl, rfl⟩
  case round =>
    obtain ⟨j, hj, rfl, rfl⟩ := hrel
    by_cases hlt : j < n
    · have hu := HC.out j hlt
      have hw : IntKind.i64.wrap ((k + j : Nat) + 1 : Int) = ((k + (j + 1) : Nat) : Int) := by
        rw [show (((k + j : Nat) : Int) + 1) = ((k + (j + 1) : Nat) : Int) from by omega]
        unfold IntKind.wrap; simp [IntKind.signed, IntKind.bits]; omega
      have g1 : (j : Int) < n := by omega
      obtain ⟨K, hK⟩ : ∃ K : Int, K = ((k + j : Nat) : Int) := ⟨_, rfl⟩
      rw [← hK] at hw hu ⊢
      clear hK
      go_wp2_with fail
      exact ⟨⟨j + 1, by omega, by congr 1, by congr 1⟩, by simp [intOf]; omega⟩
    · have ej : j = n := by omega
      subst ej
      clear HC
      obtain ⟨K, hK⟩ : ∃ K : Int, K = ((k + j : Nat) : Int) := ⟨_, rfl⟩
      have HK : Hid (K = ((k + j : Nat) : Int)) := hK
      rw [← hK]
      clear hK
      go_wp2_with fail
      go_ret
      exact ⟨ret_int (by rw [HK.out]; omega), rfl⟩
/-! ### as results -/
end Go.Proofs.YtlbagfaiiileoaaGreatDoor
/-
  Answers of PeekEntry, handed over by the laws: compared, marked, held.
-/
namespace Go.Proofs.YtlbagfaiiileoaaGreatDoor
open Go.ChangeShapes Go.WideShapes Go.ChangeAt Go.RowKit Go.Sort
end Go.Proofs.YtlbagfaiiileoaaGreatDoor
/-
  A store that is marked all over: what lies outside of it is as it was.
-/
namespace Go.Proofs.YtlbagfaiiileoaaGreatDoor
open Go.ChangeShapes Go.WideShapes Go.ChangeAt Go.RowKit Go.Sort
/-- What was there from block hi on is as it was. -/
structure Above (hi : Nat) (w w' : World) : Prop where
  size : w.heap.size ≤ w'.heap.size
  cell : ∀ b o, hi ≤ b → b < w.heap.size → w'.cell? ⟨b, o, none⟩ = w.cell? ⟨b, o, none⟩
  frozen : ∀ b o, hi ≤ b → b < w.heap.size → w'.frozen? ⟨b, o, none⟩ = w.frozen? ⟨b, o, none⟩
theorem Above.refl (hi : Nat) (w : World) : Above hi w w := ⟨Nat.le_refl _, fun _ _ _ _ => rfl, fun _ _ _ _ => rfl⟩
theorem Above.trans {hi : Nat} {w w1 w2 : World} (h : Above hi w w1) (k : Above hi w1 w2) : Above hi w w2 :=
  ⟨Nat.le_trans h.size k.size, fun b o hb hn => by rw [k.cell b o hb (Nat.lt_of_lt_of_le hn h.size), h.cell b o hb hn], fun b o hb hn => by rw [k.frozen b o hb (Nat.lt_of_lt_of_le hn h.size), h.frozen b o hb hn]⟩
theorem Above.apart {hi B : Nat} {w w' : World} (h : Apart B w w') (hB : B < hi) : Above hi w w' :=
  ⟨h.size, fun b o hb hn => h.cell b o hn (by omega), fun b o hb hn => h.frozen b o hn (by omega)⟩
theorem Above.below {hi : Nat} {w w' : World} (h : Below w.heap.size w w') : Above hi w w' :=
  ⟨h.size, fun b o _ hn => h.cell (p := ⟨b, o, none⟩) hn, fun b o _ hn => h.frozen (p := ⟨b, o, none⟩) hn⟩
theorem QMine.apart {W W' : World} {B b : Nat} {l : List Hdr} (h : QMine W b l) (k : Apart B W W') (hne : b ≠ B) : QMine W' b l :=
  ⟨fun i r hr => by rw [k.cell b _ h.lt hne, k.cell b _ h.lt hne]; exact h.at0 i r hr, fun o => by rw [k.frozen b o h.lt hne]; exact h.free o, Nat.lt_of_lt_of_le h.lt k.size⟩
theorem BMine.apart {W W' : World} {B b : Nat} {l : List UInt8} (h : BMine W b l) (k : Apart B W W') (hne : b ≠ B) : BMine W' b l :=
  ⟨fun i r hr => by rw [k.cell b _ h.lt hne]; exact h.at0 i r hr, fun o ho => by rw [k.frozen b o h.lt hne]; exact h.free o ho, Nat.lt_of_lt_of_le h.lt k.size⟩
theorem TMine.apart {W W' : World} {B b : Nat} {l : List ByteArray} (h : TMine W b l) (k : Apart B W W') (hne : b ≠ B) : TMine W' b l :=
  ⟨fun i r hr => by rw [k.cell b _ h.lt hne]; exact h.at0 i r hr, fun o ho => by rw [k.frozen b o h.lt hne]; exact h.free o ho, Nat.lt_of_lt_of_le h.lt k.size⟩
theorem EntOwn.apart {W W' : World} {B : Nat} {x : Ent} {r : EntR} (h : EntOwn W x r) (k : Apart B W W') (hne : B < blk r.ha) : EntOwn W' x r := by
  obtain ⟨B1, B2, B3, rfl, h1, h2, h3, h4, h5⟩ := h
  have q : B < B1 := hne
  exact ⟨B1, B2, B3, rfl, h1.apart k (by omega), h2.apart k (by omega), h3.apart k (by omega), h4, h5⟩
theorem HRoom.apart {W W' : World} {B G m : Nat} (h : HRoom W G m) (hG : G < W.heap.size) (k : Apart B W W') (hne : G ≠ B) : HRoom W' G m := fun j hj => by
  obtain ⟨⟨u, hu⟩, hf⟩ := h j hj
  exact ⟨⟨u, by rw [k.cell G j hG hne]; exact hu⟩, by rw [k.frozen G j hG hne]; exact hf⟩
/-- The entries from k on are as they were. -/
structure EFrom (W : World) (G k n : Nat) (l : List (Ent × EntR)) : Prop where
  cell : ∀ (i : Nat) q, k ≤ i → l[i]? = some q → ∀ j, j < 13 → W.cell? ⟨G, i * 13 + j, none⟩ = (entW q.1 q.2)[j]?
  own : ∀ (i : Nat) q, k ≤ i → l[i]? = some q → EntOwn W q.1 q.2
  room : HRoom W G (n * 13)
  lt : G < W.heap.size
theorem EFrom.next {W : World} {G k n : Nat} {l : List (Ent × EntR)} (h : EFrom W G k n l) : EFrom W G (k + 1) n l := ⟨fun i q hi => h.cell i q (by omega), fun i q hi => h.own i q (by omega), h.room, h.lt⟩
theorem EFrom.apart {W W' : World} {B G k n : Nat} {l : List (Ent × EntR)} (h : EFrom W G k n l) (a : Apart B W W') (hG : G ≠ B) (hB : ∀ (i : Nat) q, k ≤ i → l[i]? = some q → B < blk q.2.ha) : EFrom W' G k n l :=
  ⟨fun i q hi hq j hj => by rw [a.cell G _ h.lt hG]; exact h.cell i q hi hq j hj, fun i q hi hq => (h.own i q hi hq).apart a (hB i q hi hq), h.room.apart h.lt a hG, Nat.lt_of_lt_of_le h.lt a.size⟩
theorem EFrom.below {W W' : World} {G k n : Nat} {l : List (Ent × EntR)} (h : EFrom W G k n l) (b : Below W.heap.size W W') : EFrom W' G k n l :=
  ⟨fun i q hi hq j hj => by rw [b.cell (p := ⟨G, i * 13 + j, none⟩) h.lt]; exact h.cell i q hi hq j hj, fun i q hi hq => (h.own i q hi hq).keep b, h.room.keep b, Nat.lt_of_lt_of_le h.lt b.size⟩
theorem EFrom.set {W : World} {G k n : Nat} {l : List (Ent × EntR)} (h : EFrom W G (k + 1) n l) (hup : ∀ q ∈ l, G < blk q.2.ha) (o : Nat) (ho : o < (k + 1) * 13) (u : Value) : EFrom (W.setCell ⟨G, o, none⟩ u) G (k + 1) n l := by
  refine ⟨fun i q hi hq j hj => ?_, fun i q hi hq => (h.own i q hi hq).off1 u (hup q (List.mem_of_getElem? hq)), h.room.set _ _, by simpa using h.lt⟩
  rw [World.cell?_setCell_other _ _ _ _ (hoff_ne (by omega))]
  exact h.cell i q hi hq j hj
/-- While entry k is being marked. -/
structure MS (w : World) (lo hi G n k : Nat) (l : List (Ent × EntR)) (v2 v3 v11 : Value) (W : World) : Prop where
  fr : EFrom W G (k + 1) n l
  c2 : W.cell? ⟨G, k * 13 + 2, none⟩ = some v2
  c3 : W.cell? ⟨G, k * 13 + 3, none⟩ = some v3
  c11 : W.cell? ⟨G, k * 13 + 11, none⟩ = some v11
  bl : Below lo w W
  ab : Above hi w W
  le : lo ≤ w.heap.size
section
variable {w W W' : World} {lo hi G n k : Nat} {l : List (Ent × EntR)} {v2 v3 v11 : Value}
theorem MS.below (h : MS w lo hi G n k l v2 v3 v11 W) (b : Below W.heap.size W W') : MS w lo hi G n k l v2 v3 v11 W' :=
  ⟨h.fr.below b, by rw [b.cell (p := ⟨G, k * 13 + 2, none⟩) h.fr.lt]; exact h.c2, by rw [b.cell (p := ⟨G, k * 13 + 3, none⟩) h.fr.lt]; exact h.c3, by rw [b.cell (p := ⟨G, k * 13 + 11, none⟩) h.fr.lt]; exact h.c11, h.bl.trans (b.mono (Nat.le_trans h.le h.bl.size)), h.ab.trans (.below b), h.le⟩
theorem MS.set (h : MS w lo hi G n k l v2 v3 v11 W) (hup : ∀ q ∈ l, G < blk q.2.ha) (hlo : lo ≤ G) (hhi : G < hi) (j : Nat) (hj : j < 13) (h2 : j ≠ 2) (h3 : j ≠ 3) (h4 : j ≠ 11) (u : Value) : MS w lo hi G n k l v2 v3 v11 (W.setCell ⟨G, k * 13 + j, none⟩ u) :=
  ⟨h.fr.set hup _ (by omega) u, by rw [World.cell?_setCell_other _ _ _ _ (hoff_ne (by omega))]; exact h.c2, by rw [World.cell?_setCell_other _ _ _ _ (hoff_ne (by omega))]; exact h.c3, by rw [World.cell?_setCell_other _ _ _ _ (hoff_ne (by omega))]; exact h.c11, h.bl.setCell hlo u, h.ab.trans (.apart (Apart.set G _ W u) hhi), h.le⟩
theorem MS.apart (h : MS w lo hi G n k l v2 v3 v11 W) {B : Nat} (a : Apart B W W') (b : Below B W W') (hlo : lo ≤ B) (hhi : B < hi) (hG : G < B) (hB : ∀ (i : Nat) q, k + 1 ≤ i → l[i]? = some q → B < blk q.2.ha) : MS w lo hi G n k l v2 v3 v11 W' :=
  ⟨h.fr.apart a (by omega) hB, by rw [a.cell G _ h.fr.lt (by omega)]; exact h.c2, by rw [a.cell G _ h.fr.lt (by omega)]; exact h.c3, by rw [a.cell G _ h.fr.lt (by omega)]; exact h.c11, h.bl.trans (b.mono hlo), h.ab.trans (.apart a hhi), h.le⟩
end
set_option maxHeartbeats 4000000 in
theorem markTS_row (W : World) (g n cap k : Nat) (hn : n ≤ 1048576) (hk0 : 1 ≤ k) (hk : k ≤ 100000000000000) (hg : g < W.heap.size) (hm : HRoom W g n) :
    Calls Tryz.prog 65 #[.slice (some ⟨g, 0, none⟩) n cap, .int .i64 (k : Int)] W fun e w' => e = .returned (.int .i64 ((k + n : Nat) : Int)) ∧ Apart g W w' ∧ Below g W w' := by
  have HM : Hid (HRoom W g n) := hm
  clear hm
  go_enter Tryz.func65, Tryz.ntmps65
  go_wp2_with fail
  go_loopw [1, 5] (fun x i wr => ∃ j : Nat, j ≤ n ∧ i = .int .i64 (j : Int) ∧ x = .int .i64 ((k + j : Nat) : Int) ∧ HRoom wr g n ∧ g < wr.heap.size ∧ Apart g W wr ∧ Below g W wr) (fun _ i _ => n - (intOf i).toNat)
  case atStart => exact ⟨0, Nat.zero_le _, rfl, rfl, HM.out, hg, .refl _ _, Below.refl _ _⟩
  case round =>
    obtain ⟨j, hj, rfl, rfl, hm, hgw, ha, hb⟩ := hrel
    by_cases hlt : j < n
    · have C : Hid (Calls Tryz.prog 128 #[.int .i64 ((k + j : Nat) : Int)] wr fun e w' => e = .returned (.string (mkT (k + j))) ∧ Below wr.heap.size wr w') := markText_any (k + j) (by omega) (by omega) wr
      have HK : Hid (HRoom wr g n ∧ Apart g W wr ∧ Below g W wr) := ⟨hm, ha, hb⟩
      have gj : (j : Int) < n := by omega
      have gj0 : (0 : Int) ≤ j := by omega
      clear hm ha hb HM
      go_wp2_with fail
      refine C.out.mono ?_
      rintro e w2 ⟨rfl, hb2⟩
      have hm2 := HK.out.1.keep hb2
      obtain ⟨⟨u, hu⟩, hf⟩ := hm2 j hlt
      have HN : Hid (∀ v, HRoom (w2.setCell ⟨g, j, none⟩ v) g n ∧ g < (w2.setCell ⟨g, j, none⟩ v).heap.size ∧ Apart g W (w2.setCell ⟨g, j, none⟩ v) ∧ Below g W (w2.setCell ⟨g, j, none⟩ v)) := fun v => ⟨hm2.set _ _, by simpa using Nat.lt_of_lt_of_le hgw hb2.size, (HK.out.2.1.trans (.below hb2)).trans (Apart.set g _ _ _), (HK.out.2.2.trans (hb2.mono (Nat.le_of_lt hgw))).setCell (Nat.le_refl _) _⟩
      clear hb2 hm2 HK C
      go_wp2_with fail
      go_roundw
      case rel => exact ⟨j + 1, by omega, by go_num, by go_num, (HN.out _).1, (HN.out _).2.1, (HN.out _).2.2.1, (HN.out _).2.2.2⟩
      case measure => simp [intOf]; omega
    · have e : j = n := by omega
      subst e
      go_wp2_with fail
      go_ret
      exact ⟨rfl, ha, hb⟩
theorem BMine.room {W : World} {B : Nat} {l : List UInt8} (h : BMine W B l) : HRoom W B l.length := fun j hj => ⟨⟨_, by have := h.at0 j l[j] (List.getElem?_eq_getElem hj); rw [Nat.zero_add] at this; exact this⟩, h.free j hj⟩
theorem TMine.room {W : World} {B : Nat} {l : List ByteArray} (h : TMine W B l) : HRoom W B l.length := fun j hj => ⟨⟨_, by have := h.at0 j l[j] (List.getElem?_eq_getElem hj); rw [Nat.zero_add] at this; exact this⟩, h.free j hj⟩
theorem BAV.ap {g n c : Nat} {w w' : World} (h : BAV (.slice (some ⟨g, 0, none⟩) n c) w w') : Apart g w w' :=
  ⟨by rw [h.size]; exact Nat.le_refl _, fun b o hb hn => h.cell b o hb (by simp only [Value.ownBlock, ne_eq, Option.some.injEq]; omega), fun b o _ _ => h.frozen b o⟩
set_option maxRecDepth 100000 in
set_option maxHeartbeats 16000000 in
theorem markES_weak (w : World) (lo hi G cap c0 : Nat) (l : List (Ent × EntR)) (hl : l.length ≤ 1048576) (hf : ∀ q ∈ l, EntFit q.1) (hm : EntsMine w G l) (hr : HRoom w G (l.length * 13)) (hlo : lo ≤ G) (hhi : G < hi) (hhs : hi ≤ w.heap.size) (hub : ∀ q ∈ l, blk q.2.ta < hi) (hc0 : 1 ≤ c0) (hc1 : c0 ≤ 10000000000000) :
    Calls Tryz.prog 140 #[.slice (some ⟨G, 0, none⟩) l.length cap, .int .i64 (c0 : Int)] w fun e w' => (∃ c1 : Nat, e = .returned (.int .i64 (c1 : Int)) ∧ 1 ≤ c1 ∧ c1 ≤ c0 + l.length * 4194314) ∧ Below lo w w' ∧ Above hi w w' := by
  have HUP : Hid (∀ q ∈ l, G < blk q.2.ha) := hm.up
  have HPW : Hid (∀ (i j : Nat) q q', i < j → l[i]? = some q → l[j]? = some q' → blk q.2.ta < blk q'.2.ha) := fun i j q q' hij hi hj => by
    obtain ⟨h1, e1⟩ := List.getElem?_eq_some_iff.1 hi
    obtain ⟨h2, e2⟩ := List.getElem?_eq_some_iff.1 hj
    have := List.pairwise_iff_getElem.1 hm.pw i j h1 h2 hij
    rw [e1, e2] at this
    exact this
  have HUB : Hid (∀ q ∈ l, blk q.2.ta < hi) := hub
  have HFT : Hid (∀ q ∈ l, EntFit q.1) := hf
  have HST : Hid (EFrom w G 0 l.length l) := ⟨fun i q _ hq j hj => hm.cell i q hq j hj, fun i q _ hq => hm.own q (List.mem_of_getElem? hq), hr, hm.lt⟩
  clear hm hr hub hf
  obtain ⟨n, hn0⟩ : ∃ n, l.length = n := ⟨_, rfl⟩
  rw [hn0] at HST hl ⊢
  have HN : Hid (l.length = n) := hn0
  clear hn0
  go_enter Tryz.func140, Tryz.ntmps140
  go_wp2_with fail
  go_loopw [1, 5] (fun x i wr => ∃ k c : Nat, k ≤ n ∧ i = .int .i64 (k : Int) ∧ x = .int .i64 (c : Int) ∧ 1 ≤ c ∧ c ≤ c0 + k * 4194314 ∧ EFrom wr G k n l ∧ Below lo w wr ∧ Above hi w wr) (fun _ i _ => n - (intOf i).toNat)
  case atStart => exact ⟨0, c0, Nat.zero_le _, rfl, rfl, hc0, by omega, HST.out, Below.refl _ _, .refl _ _⟩
  case round =>
    obtain ⟨k, c, hk, rfl, rfl, h1, h2, hfr, hb, hab⟩ := hrel
    clear HST
    by_cases hlt : k < n
    · obtain ⟨⟨x, r⟩, hq⟩ : ∃ r, l[k]? = some r := ⟨l[k]'(by have := HN.out; omega), List.getElem?_eq_getElem _⟩
      have hmem := List.mem_of_getElem? hq
      have ft := HFT.out _ hmem
      have hcell := hfr.cell k _ (Nat.le_refl _) hq
      have ho := hfr.own k _ (Nat.le_refl _) hq
      simp only at ho
      obtain ⟨B1, B2, B3, er, m1, m2, m3, hb12, hb23⟩ := ho
      subst er
      have hG1 : G < B1 := HUP.out _ hmem
      have hB3 : B3 < hi := HUB.out _ hmem
      have HNX : Hid (∀ (i : Nat) q, k + 1 ≤ i → l[i]? = some q → B3 < blk q.2.ha) := fun i q hi' hq' => HPW.out k i _ q (by omega) hq hq'
      have z2 : wr.cell? ⟨G, k * 13 + 2, none⟩ = some (.slice (some ⟨B1, 0, none⟩) x.hs.length x.hs.length) := hcell 2 (by omega)
      have z3 : wr.cell? ⟨G, k * 13 + 3, none⟩ = some (.slice (some ⟨B2, 0, none⟩) x.bl.length x.bl.length) := hcell 3 (by omega)
      have z11 : wr.cell? ⟨G, k * 13 + 11, none⟩ = some (.slice (some ⟨B3, 0, none⟩) x.ts.length x.ts.length) := hcell 11 (by omega)
      have Q0 : Hid (MS w lo hi G n k l (.slice (some ⟨B1, 0, none⟩) x.hs.length x.hs.length) (.slice (some ⟨B2, 0, none⟩) x.bl.length x.bl.length) (.slice (some ⟨B3, 0, none⟩) x.ts.length x.ts.length) wr) := ⟨hfr.next, z2, z3, z11, hb, hab, by omega⟩
      have M1 : Hid (QMine wr B1 x.hs) := m1
      have M2 : Hid (BMine wr B2 x.bl) := m2
      have M3 : Hid (TMine wr B3 x.ts) := m3
      obtain ⟨f1, f2, f3⟩ := ft
      simp only at f1 f2 f3
      clear z2 z3 z11 hcell hfr hb hab m1 m2 m3 hq hmem HPW HUB HFT
      obtain ⟨hn, ehn⟩ : ∃ n, Hid (x.hs.length = n) := ⟨_, rfl⟩
      obtain ⟨bn, ebn⟩ : ∃ n, Hid (x.bl.length = n) := ⟨_, rfl⟩
      obtain ⟨tn, etn⟩ : ∃ n, Hid (x.ts.length = n) := ⟨_, rfl⟩
      rw [ehn.out, ebn.out, etn.out] at Q0
      rw [ehn.out] at f1
      rw [ebn.out] at f2
      rw [etn.out] at f3
      have CT : Hid (Calls Tryz.prog 128 #[.int .i64 (c : Int)] wr fun e w' => e = .returned (.string (mkT c)) ∧ Below wr.heap.size wr w') := markText_any c (by omega) (by omega) wr
      have gk : (k : Int) < n := by omega
      have gk0 : (0 : Int) ≤ k := by omega
      go_wp2_with fail
      refine CT.out.mono ?_
      rintro e w1 ⟨rfl, hb1⟩
      have Q1 := Q0.out.below hb1
      have N1 : Hid (QMine w1 B1 x.hs ∧ BMine w1 B2 x.bl ∧ TMine w1 B3 x.ts) := ⟨M1.out.keep hb1, M2.out.keep hb1, M3.out.keep hb1⟩
      obtain ⟨⟨u0, g0⟩, f0⟩ := Q1.fr.room (k * 13) (by omega)
      obtain ⟨⟨u1, g1⟩, fz1⟩ := Q1.fr.room (k * 13 + 1) (by omega)
      obtain ⟨V1, hV1⟩ : ∃ V, V = (w1.setCell ⟨G, k * 13, none⟩ (.string (mkT c))).setCell ⟨G, k * 13 + 1, none⟩ (.int .i64 ((c : Int) + 1)) := ⟨_, rfl⟩
      have HV1 : Hid (V1 = (w1.setCell ⟨G, k * 13, none⟩ (.string (mkT c))).setCell ⟨G, k * 13 + 1, none⟩ (.int .i64 ((c : Int) + 1))) := hV1
      have Q2 : Hid (MS w lo hi G n k l (.slice (some ⟨B1, 0, none⟩) hn hn) (.slice (some ⟨B2, 0, none⟩) bn bn) (.slice (some ⟨B3, 0, none⟩) tn tn) V1 ∧ QMine V1 B1 x.hs ∧ BMine V1 B2 x.bl ∧ TMine V1 B3 x.ts) := by
        rw [hV1]
        exact ⟨(Q1.set HUP.out hlo hhi 0 (by omega) (by omega) (by omega) (by omega) _).set HUP.out hlo hhi 1 (by omega) (by omega) (by omega) (by omega) _, (N1.out.1.off1 _ (by omega)).off1 _ (by omega), (N1.out.2.1.off1 _ (by omega)).off1 _ (by omega), (N1.out.2.2.off1 _ (by omega)).off1 _ (by omega)⟩
      have y2 := Q1.c2
      clear hV1 N1 hb1 CT Q0 M1 M2 M3 Q1
      have e1 : IntKind.i64.wrap ((c : Int) + 1) = (c : Int) + 1 := by unfold IntKind.wrap; simp [IntKind.signed, IntKind.bits]; omega
      have e2 : IntKind.i64.wrap ((c : Int) + 1 + 1) = (c : Int) + 1 + 1 := by unfold IntKind.wrap; simp [IntKind.signed, IntKind.bits]; omega
      have CH : Hid (Calls Tryz.prog 143 #[.slice (some ⟨B1, 0, none⟩) hn hn, .int .i64 ((c : Int) + 1 + 1)] V1 fun e w' => e = .returned (.int .i64 ((c : Int) + 1 + 1 + 2 * (hn : Int))) ∧ Apart B1 V1 w' ∧ Below B1 V1 w') := by
        have := markHeaderS_any V1 B1 0 hn hn (c + 1 + 1) x.hs ehn.out f1 (by omega) (by omega) Q2.out.2.1.at0 Q2.out.2.1.free Q2.out.2.1.lt
        rw [show (((c + 1 + 1 : Nat)) : Int) = (c : Int) + 1 + 1 from by omega, show (((c + 1 + 1 + 2 * hn : Nat)) : Int) = (c : Int) + 1 + 1 + 2 * (hn : Int) from by omega] at this
        exact this.mono (fun e w' h => ⟨h.1, h.2.2.1, h.2.2.2.1⟩)
      go_wp2_with fail
      rw [← HV1.out]
      refine CH.out.mono ?_
      rintro e w3 ⟨rfl, ha3, hb3⟩
      have Q3 : Hid (MS w lo hi G n k l (.slice (some ⟨B1, 0, none⟩) hn hn) (.slice (some ⟨B2, 0, none⟩) bn bn) (.slice (some ⟨B3, 0, none⟩) tn tn) w3 ∧ BMine w3 B2 x.bl ∧ TMine w3 B3 x.ts) := ⟨Q2.out.1.apart ha3 hb3 (by omega) (by omega) hG1 (fun i q h h' => by have := HNX.out i q h h'; omega), Q2.out.2.2.1.apart ha3 (by omega), Q2.out.2.2.2.apart ha3 (by omega)⟩
      clear Q2 CH ha3 hb3 HV1 y2 g0 f0 g1
      have y3 := Q3.out.1.c3
      obtain ⟨d, hd⟩ : ∃ d : Nat, Hid (c + 1 + 1 + 2 * hn = d) := ⟨_, rfl⟩
      have ed : (c : Int) + 1 + 1 + 2 * (hn : Int) = (d : Int) := by have := hd.out; omega
      have hdle : d ≤ c + 2 + 2 * hn := by have := hd.out; omega
      have hdge : 1 ≤ d := by have := hd.out; omega
      rw [ed]
      have CB : Hid (Calls Tryz.prog 202 #[.slice (some ⟨B2, 0, none⟩) bn bn, .int .i64 (d : Int)] w3 fun e w' => e = .returned (.int .i64 ((d + bn : Nat) : Int)) ∧ Apart B2 w3 w' ∧ Below B2 w3 w') := by
        have hrm := Q3.out.2.1.room
        rw [ebn.out] at hrm
        exact (markByteS_row w3 B2 bn bn d B2 f2 (by omega) (Nat.le_refl _) Q3.out.2.1.lt hrm).mono (fun e w' h => ⟨h.1, h.2.2.1.ap, h.2.2.2⟩)
      go_wp2_with fail
      refine CB.out.mono ?_
      rintro e w4 ⟨rfl, ha4, hb4⟩
      have Q4 : Hid (MS w lo hi G n k l (.slice (some ⟨B1, 0, none⟩) hn hn) (.slice (some ⟨B2, 0, none⟩) bn bn) (.slice (some ⟨B3, 0, none⟩) tn tn) w4 ∧ TMine w4 B3 x.ts) := ⟨Q3.out.1.apart ha4 hb4 (by omega) (by omega) (by omega) (fun i q h h' => by have := HNX.out i q h h'; omega), Q3.out.2.2.apart ha4 (by omega)⟩
      clear Q3 CB ha4 hb4 y3 ed
      obtain ⟨m, hm⟩ : ∃ m : Nat, Hid (d + bn = m) := ⟨_, rfl⟩
      rw [hm.out]
      have hmle : m ≤ c + 2 + 2 * hn + bn := by have := hm.out; omega
      have hmge : 1 ≤ m := by have := hm.out; omega
      clear hd hm hdle hdge
      obtain ⟨⟨u4, g4⟩, fz4⟩ := Q4.out.1.fr.room (k * 13 + 4) (by omega)
      obtain ⟨⟨u5, g5⟩, fz5⟩ := Q4.out.1.fr.room (k * 13 + 5) (by omega)
      obtain ⟨⟨u6, g6⟩, fz6⟩ := Q4.out.1.fr.room (k * 13 + 6) (by omega)
      obtain ⟨⟨u7, g7⟩, fz7⟩ := Q4.out.1.fr.room (k * 13 + 7) (by omega)
      obtain ⟨⟨u8, g8⟩, fz8⟩ := Q4.out.1.fr.room (k * 13 + 8) (by omega)
      obtain ⟨⟨u9, g9⟩, fz9⟩ := Q4.out.1.fr.room (k * 13 + 9) (by omega)
      obtain ⟨⟨u10, g10⟩, fz10⟩ := Q4.out.1.fr.room (k * 13 + 10) (by omega)
      have s1 : IntKind.i64.wrap ((m : Int) + 1) = (m : Int) + 1 := by unfold IntKind.wrap; simp [IntKind.signed, IntKind.bits]; omega
      have s2 : IntKind.i64.wrap ((m : Int) + 1 + 1) = (m : Int) + 1 + 1 := by unfold IntKind.wrap; simp [IntKind.signed, IntKind.bits]; omega
      have s3 : IntKind.i64.wrap ((m : Int) + 1 + 1 + 1) = (m : Int) + 1 + 1 + 1 := by unfold IntKind.wrap; simp [IntKind.signed, IntKind.bits]; omega
      have s4 : IntKind.i64.wrap ((m : Int) + 1 + 1 + 1 + 1) = (m : Int) + 1 + 1 + 1 + 1 := by unfold IntKind.wrap; simp [IntKind.signed, IntKind.bits]; omega
      have s5 : IntKind.i64.wrap ((m : Int) + 1 + 1 + 1 + 1 + 1) = (m : Int) + 1 + 1 + 1 + 1 + 1 := by unfold IntKind.wrap; simp [IntKind.signed, IntKind.bits]; omega
      have s6 : IntKind.i64.wrap ((m : Int) + 1 + 1 + 1 + 1 + 1 + 1) = (m : Int) + 1 + 1 + 1 + 1 + 1 + 1 := by unfold IntKind.wrap; simp [IntKind.signed, IntKind.bits]; omega
      have s7 : IntKind.i64.wrap ((m : Int) + 1 + 1 + 1 + 1 + 1 + 1 + 1) = (m : Int) + 1 + 1 + 1 + 1 + 1 + 1 + 1 := by unfold IntKind.wrap; simp [IntKind.signed, IntKind.bits]; omega
      have SETS : Hid (∀ a0 a1 a2 a3 a4 a5 a6, MS w lo hi G n k l (.slice (some ⟨B1, 0, none⟩) hn hn) (.slice (some ⟨B2, 0, none⟩) bn bn) (.slice (some ⟨B3, 0, none⟩) tn tn) (((((((w4.setCell ⟨G, k * 13 + 4, none⟩ a0).setCell ⟨G, k * 13 + 5, none⟩ a1).setCell ⟨G, k * 13 + 6, none⟩ a2).setCell ⟨G, k * 13 + 7, none⟩ a3).setCell ⟨G, k * 13 + 8, none⟩ a4).setCell ⟨G, k * 13 + 9, none⟩ a5).setCell ⟨G, k * 13 + 10, none⟩ a6) ∧ TMine (((((((w4.setCell ⟨G, k * 13 + 4, none⟩ a0).setCell ⟨G, k * 13 + 5, none⟩ a1).setCell ⟨G, k * 13 + 6, none⟩ a2).setCell ⟨G, k * 13 + 7, none⟩ a3).setCell ⟨G, k * 13 + 8, none⟩ a4).setCell ⟨G, k * 13 + 9, none⟩ a5).setCell ⟨G, k * 13 + 10, none⟩ a6) B3 x.ts) := by
        intro a0 a1 a2 a3 a4 a5 a6
        refine ⟨?_, ((((((Q4.out.2.off1 _ (by omega)).off1 _ (by omega)).off1 _ (by omega)).off1 _ (by omega)).off1 _ (by omega)).off1 _ (by omega)).off1 _ (by omega)⟩
        exact ((((((Q4.out.1.set HUP.out hlo hhi 4 (by omega) (by omega) (by omega) (by omega) _).set HUP.out hlo hhi 5 (by omega) (by omega) (by omega) (by omega) _).set HUP.out hlo hhi 6 (by omega) (by omega) (by omega) (by omega) _).set HUP.out hlo hhi 7 (by omega) (by omega) (by omega) (by omega) _).set HUP.out hlo hhi 8 (by omega) (by omega) (by omega) (by omega) _).set HUP.out hlo hhi 9 (by omega) (by omega) (by omega) (by omega) _).set HUP.out hlo hhi 10 (by omega) (by omega) (by omega) (by omega) _
      have y11 := Q4.out.1.c11
      clear Q4
      have CS : Hid (∀ X, MS w lo hi G n k l (.slice (some ⟨B1, 0, none⟩) hn hn) (.slice (some ⟨B2, 0, none⟩) bn bn) (.slice (some ⟨B3, 0, none⟩) tn tn) X → TMine X B3 x.ts → Calls Tryz.prog 65 #[.slice (some ⟨B3, 0, none⟩) tn tn, .int .i64 ((m : Int) + 1 + 1 + 1 + 1 + 1 + 1 + 1)] X fun e w' => e = .returned (.int .i64 ((m : Int) + 7 + (tn : Int))) ∧ MS w lo hi G n k l (.slice (some ⟨B1, 0, none⟩) hn hn) (.slice (some ⟨B2, 0, none⟩) bn bn) (.slice (some ⟨B3, 0, none⟩) tn tn) w') := fun X hM hT => by
        have hrm := hT.room
        rw [etn.out] at hrm
        have := markTS_row X B3 tn tn (m + 7) f3 (by omega) (by omega) hT.lt hrm
        rw [show (((m + 7 : Nat)) : Int) = (m : Int) + 1 + 1 + 1 + 1 + 1 + 1 + 1 from by omega, show (((m + 7 + tn : Nat)) : Int) = (m : Int) + 7 + (tn : Int) from by omega] at this
        exact this.mono (fun e w' h => ⟨h.1, hM.apart h.2.1 h.2.2 (by omega) hB3 (by omega) HNX.out⟩)
      go_wp2_with fail
      refine (CS.out _ (SETS.out _ _ _ _ _ _ _).1 (SETS.out _ _ _ _ _ _ _).2).mono ?_
      rintro e w6 ⟨rfl, Q6⟩
      clear SETS CS y11
      obtain ⟨p, hp⟩ : ∃ p : Nat, Hid (m + 7 + tn = p) := ⟨_, rfl⟩
      have ep : (m : Int) + 7 + (tn : Int) = (p : Int) := by have := hp.out; omega
      have hple : p ≤ c + 9 + 2 * hn + bn + tn := by have := hp.out; omega
      have hpge : 1 ≤ p := by have := hp.out; omega
      rw [ep]
      clear ep hp
      obtain ⟨⟨u12, g12⟩, fz12⟩ := Q6.fr.room (k * 13 + 12) (by omega)
      have FIN : Hid (∀ u, MS w lo hi G n k l (.slice (some ⟨B1, 0, none⟩) hn hn) (.slice (some ⟨B2, 0, none⟩) bn bn) (.slice (some ⟨B3, 0, none⟩) tn tn) (w6.setCell ⟨G, k * 13 + 12, none⟩ u)) := fun u => Q6.set HUP.out hlo hhi 12 (by omega) (by omega) (by omega) (by omega) u
      have t1 : IntKind.i64.wrap ((p : Int) + 1) = (p : Int) + 1 := by unfold IntKind.wrap; simp [IntKind.signed, IntKind.bits]; omega
      clear Q6
      go_wp2_with fail
      go_roundw
      case rel => exact ⟨k + 1, p + 1, by omega, by go_num, by go_num, by omega, by omega, (FIN.out _).fr, (FIN.out _).bl, (FIN.out _).ab⟩
      case measure => simp [intOf]; omega
    · have e : k = n := by omega
      subst e
      go_wp2_with fail
      go_ret
      exact ⟨⟨c, rfl, h1, h2⟩, hb, hab⟩
end Go.Proofs.YtlbagfaiiileoaaGreatDoor
/-
  A store that a law is about: what its own helpers make of it.
-/
namespace Go.Proofs.YtlbagfaiiileoaaGreatDoor
open Go.ChangeShapes Go.WideShapes Go.ChangeAt Go.RowKit Go.Sort
/-- A store that came in. -/
structure StoArg (w : World) (ta ka : Option Addr) (tl kl : List (Ent × EntR)) : Prop where
  t : EntsIn w ta tl
  k : EntsIn w ka kl
  tn : tl.length ≤ maxLen
  kn : kl.length ≤ maxLen
  ts : ∀ q ∈ tl, EntSm q.1
  ks : ∀ q ∈ kl, EntSm q.1
theorem StoArg.keep {w w' : World} {ta ka : Option Addr} {tl kl : List (Ent × EntR)} (h : StoArg w ta ka tl kl) (hb : Below w.heap.size w w') : StoArg w' ta ka tl kl := ⟨h.t.keep hb, h.k.keep hb, h.tn, h.kn, h.ts, h.ks⟩
structure StoFit (tl kl : List (Ent × EntR)) : Prop where
  tn : tl.length ≤ 1048576
  kn : kl.length ≤ 1048576
  tf : ∀ q ∈ tl, EntFit q.1
  kf : ∀ q ∈ kl, EntFit q.1
theorem szSt_room {left : Int} {tl kl : List (Ent × EntR)} (hl : left ≤ 1048576) (h : ¬ szSt left tl kl < 0) : StoFit tl kl ∧ szSt left tl kl ≤ left := by
  unfold szSt at h ⊢
  by_cases c1 : szEL left tl < 0
  · rw [if_pos c1] at h; omega
  rw [if_neg c1] at h ⊢
  by_cases c2 : szEL (szEL left tl) kl < 0
  · rw [if_pos c2] at h; omega
  rw [if_neg c2]
  have r1 := szEL_room hl c1
  have r2 := szEL_room (Int.le_trans r1.1 hl) c2
  exact ⟨⟨r1.2.1, r2.2.1, r1.2.2, r2.2.2⟩, by omega⟩
/-- A copy of it, its holder's own. -/
def StoNew (W : World) (G1 G2 : Nat) (tl kl : List (Ent × EntR)) : Prop := ∃ tl' kl', tl'.map Prod.fst = tl.map Prod.fst ∧ kl'.map Prod.fst = kl.map Prod.fst ∧ StoMine W G1 G2 tl' kl'
theorem StoNew.keep {W W' : World} {G1 G2 : Nat} {tl kl : List (Ent × EntR)} (h : StoNew W G1 G2 tl kl) (hb : Below W.heap.size W W') : StoNew W' G1 G2 tl kl := by
  obtain ⟨a, b, e1, e2, m⟩ := h
  exact ⟨a, b, e1, e2, m.keep hb⟩
theorem fit_map {l m : List (Ent × EntR)} (e : l.map Prod.fst = m.map Prod.fst) (h : ∀ q ∈ m, EntFit q.1) : ∀ q ∈ l, EntFit q.1 := by
  intro q hq
  have : q.1 ∈ m.map Prod.fst := by rw [← e]; exact List.mem_map_of_mem hq
  obtain ⟨p, hp, e2⟩ := List.mem_map.1 this
  rw [← e2]
  exact h p hp
theorem len_map {l m : List (Ent × EntR)} (e : l.map Prod.fst = m.map Prod.fst) : l.length = m.length := by
  have := congrArg List.length e
  simpa using this
theorem szStore_arg (w : World) (bu gu : Int) (ta ka : Option Addr) (tc kc : Nat) (tl kl : List (Ent × EntR)) (left : Int) (h0 : 0 ≤ left) (h1 : left ≤ 1048576) (h : StoArg w ta ka tl kl) :
    Calls Tryz.prog 33 #[.agg #[.int .i64 bu, .int .i64 gu, .slice ta tl.length tc, .slice ka kl.length kc], .int .i64 left] w fun r w' => r = .returned (.int .i64 (szSt left tl kl)) ∧ Below w.heap.size w w' :=
  szStore_any w bu gu ta ka tc kc tl kl left h0 h1 h.tn h.kn h.ts h.ks h.t h.k
theorem toStore_arg (w : World) (bu gu : Int) (ta ka : Option Addr) (tc kc : Nat) (tl kl : List (Ent × EntR)) (h : StoArg w ta ka tl kl) (hf : StoFit tl kl) :
    Calls Tryz.prog 42 #[.agg #[.int .i64 bu, .int .i64 gu, .slice ta tl.length tc, .slice ka kl.length kc]] w fun ee w' => (∃ G1 G2, ee = .returned (.agg #[.int .i64 bu, .int .i64 gu, .slice (some ⟨G1, 0, none⟩) tl.length tl.length, .slice (some ⟨G2, 0, none⟩) kl.length kl.length]) ∧ StoNew w' G1 G2 tl kl ∧ w.heap.size ≤ G1) ∧ Below w.heap.size w w' := by
  refine (toStore_any w bu gu ta ka tc kc tl kl hf.tn hf.kn hf.tf hf.kf h.t h.k).mono ?_
  rintro e w' ⟨⟨G1, G2, a, b, rfl, e1, e2, m, hg⟩, hb⟩
  exact ⟨⟨G1, G2, rfl, ⟨a, b, e1, e2, m⟩, hg⟩, hb⟩
theorem eqStore_new (w : World) (bu gu : Int) (tl kl : List (Ent × EntR)) (G1 G2 H1 H2 : Nat) (hf : StoFit tl kl) (h : StoNew w G1 G2 tl kl) (k : StoNew w H1 H2 tl kl) :
    Calls Tryz.prog 52 #[.agg #[.int .i64 bu, .int .i64 gu, .slice (some ⟨G1, 0, none⟩) tl.length tl.length, .slice (some ⟨G2, 0, none⟩) kl.length kl.length], .agg #[.int .i64 bu, .int .i64 gu, .slice (some ⟨H1, 0, none⟩) tl.length tl.length, .slice (some ⟨H2, 0, none⟩) kl.length kl.length]] w fun r w' => r = .returned (.bool true) ∧ Below w.heap.size w w' := by
  obtain ⟨a, b, e1, e2, m⟩ := h
  obtain ⟨c, d, e3, e4, n⟩ := k
  have l1 := len_map e1
  have l2 := len_map e2
  rw [← l1, ← l2]
  exact eqStore_same w bu gu _ _ _ _ _ _ _ _ a c b d (by rw [l1]; exact hf.tn) (by rw [l2]; exact hf.kn) (fit_map e1 hf.tf) (fit_map e2 hf.kf) (e1.trans e3.symm) (e2.trans e4.symm) m.t.in n.t.in m.k.in n.k.in
end Go.Proofs.YtlbagfaiiileoaaGreatDoor
/-
  A whole store that is marked: what lies outside of it is as it was.
-/
namespace Go.Proofs.YtlbagfaiiileoaaGreatDoor
open Go.ChangeShapes Go.WideShapes Go.ChangeAt Go.RowKit Go.Sort
theorem Above.mono {h1 h2 : Nat} {w w' : World} (h : Above h1 w w') (hh : h1 ≤ h2) : Above h2 w w' := ⟨h.size, fun b o hb hn => h.cell b o (by omega) hn, fun b o hb hn => h.frozen b o (by omega) hn⟩
theorem EntOwn.above {W W' : World} {hi : Nat} {x : Ent} {r : EntR} (h : EntOwn W x r) (k : Above hi W W') (hh : hi ≤ blk r.ha) : EntOwn W' x r := by
  obtain ⟨B1, B2, B3, rfl, h1, h2, h3, h4, h5⟩ := h
  have q : hi ≤ B1 := hh
  refine ⟨B1, B2, B3, rfl, ⟨fun i r hr => ?_, fun o => ?_, ?_⟩, ⟨fun i r hr => ?_, fun o ho => ?_, ?_⟩, ⟨fun i r hr => ?_, fun o ho => ?_, ?_⟩, h4, h5⟩
  · rw [k.cell B1 _ q h1.lt, k.cell B1 _ q h1.lt]; exact h1.at0 i r hr
  · rw [k.frozen B1 o q h1.lt]; exact h1.free o
  · exact Nat.lt_of_lt_of_le h1.lt k.size
  · rw [k.cell B2 _ (by omega) h2.lt]; exact h2.at0 i r hr
  · rw [k.frozen B2 o (by omega) h2.lt]; exact h2.free o ho
  · exact Nat.lt_of_lt_of_le h2.lt k.size
  · rw [k.cell B3 _ (by omega) h3.lt]; exact h3.at0 i r hr
  · rw [k.frozen B3 o (by omega) h3.lt]; exact h3.free o ho
  · exact Nat.lt_of_lt_of_le h3.lt k.size
theorem EntsMine.above {W W' : World} {hi G : Nat} {l : List (Ent × EntR)} (h : EntsMine W G l) (k : Above hi W W') (hh : hi ≤ G) : EntsMine W' G l :=
  ⟨fun i q hq j hj => by rw [k.cell G _ hh h.lt]; exact h.cell i q hq j hj, fun o => by rw [k.frozen G o hh h.lt]; exact h.free o, Nat.lt_of_lt_of_le h.lt k.size, fun q hq => (h.own q hq).above k (Nat.le_trans hh (Nat.le_of_lt (h.up q hq))), h.up, h.pw⟩
theorem EntsMine.room {W : World} {G : Nat} {l : List (Ent × EntR)} (h : EntsMine W G l) : HRoom W G (l.length * 13) := fun j hj => by
  have hm : j / 13 * 13 + j % 13 = j := by omega
  obtain ⟨q, hq⟩ : ∃ r, l[j / 13]? = some r := ⟨l[j / 13]'(by omega), List.getElem?_eq_getElem _⟩
  have c := h.cell (j / 13) q hq (j % 13) (by omega)
  rw [hm] at c
  exact ⟨⟨_, c.trans (List.getElem?_eq_getElem (by rw [show (entW q.1 q.2).length = 13 from rfl]; omega))⟩, h.free j⟩
set_option maxHeartbeats 4000000 in
theorem markSto_weak (w0 w : World) (bu gu : Int) (tl kl : List (Ent × EntR)) (G1 G2 lo hi tk kk : Nat) (hf : StoFit tl kl) (h : StoNew w0 G1 G2 tl kl) (hw : Below w0.heap.size w0 w) (hlo : lo ≤ G1) (hhi : hi = w0.heap.size) :
    Calls Tryz.prog 71 #[.agg #[.int .i64 bu, .int .i64 gu, .slice (some ⟨G1, 0, none⟩) tl.length tk, .slice (some ⟨G2, 0, none⟩) kl.length kk], .int .i64 1] w fun e w' => (∃ c1 : Nat, e = .returned (.int .i64 (c1 : Int)) ∧ 1 ≤ c1 ∧ c1 ≤ 10000000000000) ∧ Below lo w w' ∧ Above hi w w' := by
  obtain ⟨a, b, e1, e2, m0⟩ := h
  have m := m0.keep hw
  have hw0 := hw.size
  have hG0 := m0.k.lt
  have l1 := len_map e1
  have l2 := len_map e2
  rw [← l1, ← l2]
  have n1 : a.length ≤ 1048576 := by rw [l1]; exact hf.tn
  have n2 : b.length ≤ 1048576 := by rw [l2]; exact hf.kn
  have F1 := fit_map e1 hf.tf
  have F2 := fit_map e2 hf.kf
  have hG1 := m.t.lt
  have hG2 := m.k.lt
  have hGG := m.lt
  obtain ⟨W, hW⟩ : ∃ W, W = w.alloc (.cells #[.int .i64 bu, .int .i64 gu, .slice (some ⟨G1, 0, none⟩) a.length tk, .slice (some ⟨G2, 0, none⟩) b.length kk] 44) := ⟨_, rfl⟩
  have HW : Hid (W = w.alloc (.cells #[.int .i64 bu, .int .i64 gu, .slice (some ⟨G1, 0, none⟩) a.length tk, .slice (some ⟨G2, 0, none⟩) b.length kk] 44)) := hW
  have bW : Below w.heap.size w W := by rw [hW]; exact (Below.refl _ _).alloc (Nat.le_refl _) _
  have sW : S4 W w.heap.size (.int .i64 bu) (.int .i64 gu) (.slice (some ⟨G1, 0, none⟩) a.length tk) (.slice (some ⟨G2, 0, none⟩) b.length kk) := by rw [hW]; exact S4.new w _ _ _ _ _
  have mW := m.keep bW
  have C1 : Hid (Calls Tryz.prog 140 #[.slice (some ⟨G1, 0, none⟩) a.length tk, .int .i64 ((1 : Nat) : Int)] W fun e w' => (∃ c1 : Nat, e = .returned (.int .i64 (c1 : Int)) ∧ 1 ≤ c1 ∧ c1 ≤ 1 + a.length * 4194314) ∧ Below lo W w' ∧ Above G2 W w') := markES_weak W lo G2 G1 tk 1 a n1 F1 mW.t mW.t.room hlo hGG (by have := bW.size; omega) m.up (by omega) (by omega)
  have HX : Hid (∀ X c, Below lo W X → Above G2 W X → 1 ≤ c → c ≤ 1 + a.length * 4194314 → Calls Tryz.prog 140 #[.slice (some ⟨G2, 0, none⟩) b.length kk, .int .i64 ((c : Nat) : Int)] X fun e w' => (∃ c1 : Nat, e = .returned (.int .i64 (c1 : Int)) ∧ 1 ≤ c1 ∧ c1 ≤ c + b.length * 4194314) ∧ Below lo X w' ∧ Above hi X w') := fun X c hb ha hc1 hc2 => by
    have mk := mW.k.above ha (Nat.le_refl _)
    have hs := ha.size
    have hws := bW.size
    exact markES_weak X lo hi G2 kk c b n2 F2 mk mk.room (by omega) (by omega) (by omega) (fun q hq => by have := (mW.k.own q hq).lt; have := (m0.k.own q hq).lt; omega) hc1 (by omega)
  have K3 : Hid (∀ X, Above G2 W X → X.cell? ⟨w.heap.size, 3, none⟩ = some (.slice (some ⟨G2, 0, none⟩) b.length kk)) := fun X ha => by
    rw [ha.cell w.heap.size 3 (by omega) sW.lt]; exact sW.c3
  have HB : Hid (Below lo w W ∧ Above hi w W) := ⟨bW.mono (by omega), .below bW⟩
  have HLE : Hid (lo ≤ w.heap.size ∧ G2 ≤ hi) := ⟨by omega, by omega⟩
  clear hW bW sW mW F1 F2 m m0 hw e1 e2 l1 l2 hf
  generalize a.length = an at *
  generalize b.length = bn at *
  have C1' : Hid (Calls Tryz.prog 140 #[.slice (some ⟨G1, 0, none⟩) an tk, .int .i64 1] W fun e w' => (∃ c1 : Nat, e = .returned (.int .i64 (c1 : Int)) ∧ 1 ≤ c1 ∧ c1 ≤ 1 + an * 4194314) ∧ Below lo W w' ∧ Above G2 W w') := C1.out
  clear C1
  go_enter Tryz.func71, Tryz.ntmps71
  go_wp2_with fail
  rw [← HW.out]
  refine C1'.out.mono ?_
  rintro e w1 ⟨⟨c1, rfl, hc1, hc2⟩, hb1, ha1⟩
  have q3 := K3.out w1 ha1
  have HC2 := HX.out w1 c1 hb1 ha1 hc1 hc2
  have HB1 : Hid (Below lo w w1 ∧ Above hi w w1) := ⟨HB.out.1.trans hb1, HB.out.2.trans (ha1.mono HLE.out.2)⟩
  clear K3 HX C1' HW HB hb1 ha1
  go_wp2_with fail
  refine HC2.mono ?_
  rintro e w2 ⟨⟨c2, rfl, hc3, hc4⟩, hb2, ha2⟩
  have HB2 : Hid (Below lo w w2 ∧ Above hi w w2) := ⟨HB1.out.1.trans hb2, HB1.out.2.trans ha2⟩
  clear HC2 hb2 ha2 HB1 q3
  go_wp2_with fail
  go_ret
  exact ⟨⟨c2, rfl, hc3, by omega⟩, HB2.out.1, HB2.out.2⟩
end Go.Proofs.YtlbagfaiiileoaaGreatDoor
/-
  An entry whose lists are its own: marked, held.
-/
namespace Go.Proofs.YtlbagfaiiileoaaGreatDoor
open Go.ChangeShapes Go.WideShapes Go.ChangeAt Go.RowKit Go.Sort
def BLV (w : World) (v : Value) (l : List UInt8) : Prop :=
  (v = .slice none 0 0 ∧ l = []) ∨ ∃ g cap, v = .slice (some ⟨g, 0, none⟩) l.length cap ∧ g < w.heap.size ∧ BAt w g 0 l ∧ ∀ o, w.frozen? ⟨g, o, none⟩ = false
theorem RowB.lv {w : World} {base : Nat} {v : Value} {l : List UInt8} (h : RowB w base v l) : BLV w v l ∧ ∀ b, v.ownBlock = some b → base ≤ b := by
  have h0 := h
  obtain ⟨_, h1 | ⟨g, c, cur, rfl, hg, hh, _⟩⟩ := h
  · have e : l = [] := List.eq_nil_of_length_eq_zero h1.2
    exact ⟨.inl ⟨h1.1, e⟩, fun b hb => by rw [h1.1] at hb; cases hb⟩
  · refine ⟨.inr ⟨g, c, rfl, (Array.getElem?_eq_some_iff.1 hh).1, fun i q hq => ?_, fun o => ?_⟩, fun b hb => ?_⟩
    · have hi := (List.getElem?_eq_some_iff.1 hq).1
      have c1 := World.ownsRow.cellAt h0 i (by omega)
      rw [Nat.zero_add, c1]
      unfold cBytes
      rw [List.getElem?_map, hq]
      rfl
    · simp [World.frozen?, hh]
    · simp only [Value.ownBlock, Option.some.injEq] at hb; omega
theorem RowT.lv {w : World} {base : Nat} {v : Value} {l : List ByteArray} (h : RowT w base v l) : TLV w v l ∧ ∀ b, v.ownBlock = some b → base ≤ b := by
  have h0 := h
  obtain ⟨_, h1 | ⟨g, c, cur, rfl, hg, hh, _⟩⟩ := h
  · have e : l = [] := List.eq_nil_of_length_eq_zero h1.2
    exact ⟨.inl ⟨h1.1, e⟩, fun b hb => by rw [h1.1] at hb; cases hb⟩
  · refine ⟨.inr ⟨g, c, rfl, (Array.getElem?_eq_some_iff.1 hh).1, fun i q hq => ?_, fun o => ?_⟩, fun b hb => ?_⟩
    · have hi := (List.getElem?_eq_some_iff.1 hq).1
      have c1 := World.ownsRow.cellAt h0 i (by omega)
      rw [Nat.zero_add, c1]
      unfold cTexts
      rw [List.getElem?_map, hq]
      rfl
    · simp [World.frozen?, hh]
    · simp only [Value.ownBlock, Option.some.injEq] at hb; omega
theorem RowH.lv {w : World} {base : Nat} {v : Value} {l : List Hdr} (h : RowH w base v l) : HLV w v l ∧ ∀ b, v.ownBlock = some b → base ≤ b := OwnH.lv h
theorem BLV.below {w w' : World} {v : Value} {l : List UInt8} (h : BLV w v l) (hb : Below w.heap.size w w') : BLV w' v l := by
  rcases h with h | ⟨g, c, e, hg, hi, hf⟩
  · exact .inl h
  · exact .inr ⟨g, c, e, Nat.lt_of_lt_of_le hg hb.size, hi.keep hb, fun o => by rw [hb.frozen (p := ⟨g, o, none⟩) hg, hf]⟩
theorem BLV.av {w w' : World} {v v1 : Value} {l : List UInt8} (h : BLV w v1 l) (k : HAV v w w') (hne : ∀ b, v1.ownBlock = some b → v.ownBlock ≠ some b) : BLV w' v1 l := by
  rcases h with h | ⟨g, c, rfl, hg, hi, hf⟩
  · exact .inl h
  · have hn := hne g rfl
    exact .inr ⟨g, c, rfl, Nat.lt_of_lt_of_le hg k.size, fun i r hr => by rw [k.cell g _ hg hn]; exact hi i r hr, fun o => by rw [k.frozen g o hg hn, hf]⟩
theorem MarkB.hav {w w' : World} {v u : Value} {k n : Nat} (h : MarkB w v k n) (ha : HAV u w w') (hne : ∀ b, v.ownBlock = some b → u.ownBlock ≠ some b) : MarkB w' v k n := by
  rcases h with h | ⟨g, c, rfl, hg, hc⟩
  · exact .inl h
  · exact .inr ⟨g, c, rfl, Nat.lt_of_lt_of_le hg ha.size, fun i hi => by rw [ha.cell g i hg (hne g rfl)]; exact hc i hi⟩
/-! ### from any number on -/
theorem markHeaderS_lvk (w : World) (v : Value) (l : List Hdr) (k : Nat) (hk0 : 1 ≤ k) (hk : k ≤ 100000000000000) (hl : l.length ≤ 1048576) (h : HLV w v l) (base : Nat) (hb : ∀ b, v.ownBlock = some b → base ≤ b) (hbs : base ≤ w.heap.size) :
    Calls Tryz.prog 143 #[v, .int .i64 (k : Int)] w fun e w' => e = .returned (.int .i64 ((k + 2 * l.length : Nat) : Int)) ∧ HLV w' v (mkHL k l.length) ∧ HAV v w w' ∧ Below base w w' := by
  rcases h with ⟨rfl, rfl⟩ | ⟨g, c, rfl, hg, hi, hf⟩
  · exact (markHeaderS_nil w none 0 k).mono fun _ _ ⟨h1, h2⟩ => ⟨h1, .inl ⟨rfl, rfl⟩, .below h2, h2.mono hbs⟩
  · refine (markHeaderS_any w g 0 c l.length k l rfl hl hk0 hk hi hf hg).mono ?_
    rintro e w' ⟨h1, h2, h3, h4, h5⟩
    have hne : ∀ b, (Value.slice (some ⟨g, 0, none⟩) l.length c).ownBlock ≠ some b → b ≠ g := fun b hb e => hb (by subst e; rfl)
    refine ⟨h1, ?_, ⟨h3.size, fun b o hb hn => h3.cell b o hb (hne b hn), fun b o hb hn => h3.frozen b o hb (hne b hn)⟩, h4.mono (hb g rfl)⟩
    exact .inr ⟨g, c, by rw [mkHL_len], Nat.lt_of_lt_of_le hg h3.size, h2, h5⟩
theorem markStringS_lvk (w : World) (v : Value) (l : List ByteArray) (k : Nat) (hk0 : 1 ≤ k) (hk : k ≤ 100000000000000) (hl : l.length ≤ 1048576) (h : TLV w v l) (base : Nat) (hb : ∀ b, v.ownBlock = some b → base ≤ b) (hbs : base ≤ w.heap.size) :
    Calls Tryz.prog 65 #[v, .int .i64 (k : Int)] w fun e w' => e = .returned (.int .i64 ((k + l.length : Nat) : Int)) ∧ TLV w' v (mkTL k l.length) ∧ HAV v w w' ∧ Below base w w' := by
  rcases h with ⟨rfl, rfl⟩ | ⟨g, c, rfl, hg, hi, hf⟩
  · exact (markStringS_nil w none 0 k).mono fun _ _ ⟨h1, h2⟩ => ⟨h1, .inl ⟨rfl, rfl⟩, .below h2, h2.mono hbs⟩
  · refine (markStringS_any w g 0 c l.length k l rfl hl hk0 hk hi hf hg).mono ?_
    rintro e w' ⟨h1, h2, h3, h4, h5⟩
    have hne : ∀ b, (Value.slice (some ⟨g, 0, none⟩) l.length c).ownBlock ≠ some b → b ≠ g := fun b hb e => hb (by subst e; rfl)
    refine ⟨h1, ?_, ⟨h3.size, fun b o hb hn => h3.cell b o hb (hne b hn), fun b o hb hn => h3.frozen b o hb (hne b hn)⟩, h4.mono (hb g rfl)⟩
    exact .inr ⟨g, c, by rw [mkTL_len], Nat.lt_of_lt_of_le hg h3.size, h2, h5⟩
set_option maxHeartbeats 1000000 in
theorem markByteS_nil (w : World) (a : Option Addr) (c k : Nat) :
    Calls Tryz.prog 202 #[.slice a 0 c, .int .i64 (k : Int)] w fun e w' => e = .returned (.int .i64 (k : Int)) ∧ Below w.heap.size w w' := by
  go_enter Tryz.func202, Tryz.ntmps202
  go_wp2_with fail
  go_loop [1, 5] (fun x i => x = .int .i64 (k : Int) ∧ i = .int .i64 0) (fun _ _ => 0)
  case atStart => exact ⟨rfl, rfl⟩
  case round =>
    obtain ⟨rfl, rfl⟩ := hrel
    go_wp2_with fail
    go_ret
    exact ⟨rfl, Below.refl _ _⟩
set_option maxHeartbeats 1000000 in
theorem heldByteS_nil (w : World) (a : Option Addr) (c k : Nat) :
    Calls Tryz.prog 239 #[.slice a 0 c, .int .i64 (k : Int)] w fun e w' => e = .returned (.int .i64 (k : Int)) ∧ Below w.heap.size w w' := by
  go_enter Tryz.func239, Tryz.ntmps239
  go_wp2_with fail
  go_loop [1, 5] (fun x i => x = .int .i64 (k : Int) ∧ i = .int .i64 0) (fun _ _ => 0)
  case atStart => exact ⟨rfl, rfl⟩
  case round =>
    obtain ⟨rfl, rfl⟩ := hrel
    go_wp2_with fail
    go_ret
    exact ⟨rfl, Below.refl _ _⟩
theorem markByteS_lvk (w : World) (v : Value) (l : List UInt8) (k : Nat) (hk : k ≤ 100000000000000) (hl : l.length ≤ 1048576) (h : BLV w v l) (base : Nat) (hb : ∀ b, v.ownBlock = some b → base ≤ b) (hbs : base ≤ w.heap.size) :
    Calls Tryz.prog 202 #[v, .int .i64 (k : Int)] w fun e w' => e = .returned (.int .i64 ((k + l.length : Nat) : Int)) ∧ MarkB w' v k l.length ∧ HAV v w w' ∧ Below base w w' := by
  rcases h with ⟨rfl, rfl⟩ | ⟨g, c, rfl, hg, hi, hf⟩
  · exact (markByteS_nil w none 0 k).mono fun _ _ ⟨h1, h2⟩ => ⟨h1, .inl rfl, .below h2, h2.mono hbs⟩
  · refine (markByteS_row w g l.length c k base hl hk (hb g rfl) hg ?_).mono ?_
    · intro j hj
      have := hi j l[j] (List.getElem?_eq_getElem hj)
      rw [Nat.zero_add] at this
      exact ⟨⟨_, this⟩, hf j⟩
    · rintro e w' ⟨h1, h2, h3, h4⟩
      exact ⟨h1, h2, ⟨Nat.le_of_eq h3.size.symm, h3.cell, fun b o _ _ => h3.frozen b o⟩, h4⟩
theorem heldHeaderS_lvk (w : World) (v : Value) (n k : Nat) (hk0 : 1 ≤ k) (hk : k ≤ 100000000000000) (hl : n ≤ 1048576) (h : HLV w v (mkHL k n)) :
    Calls Tryz.prog 197 #[v, .int .i64 (k : Int)] w fun e w' => e = .returned (.int .i64 ((k + 2 * n : Nat) : Int)) ∧ Below w.heap.size w w' := by
  rcases h with ⟨rfl, h0⟩ | ⟨g, c, rfl, _, hi, _⟩
  · have e := congrArg List.length h0
    rw [mkHL_len] at e
    simp at e
    subst e
    exact heldHeaderS_nil w none 0 k
  · rw [mkHL_len]
    exact heldHeaderS_any w g 0 c n k hl hk0 hk hi
theorem heldStringS_lvk (w : World) (v : Value) (n k : Nat) (hk0 : 1 ≤ k) (hk : k ≤ 100000000000000) (hl : n ≤ 1048576) (h : TLV w v (mkTL k n)) :
    Calls Tryz.prog 193 #[v, .int .i64 (k : Int)] w fun e w' => e = .returned (.int .i64 ((k + n : Nat) : Int)) ∧ Below w.heap.size w w' := by
  rcases h with ⟨rfl, h0⟩ | ⟨g, c, rfl, _, hi, _⟩
  · have e := congrArg List.length h0
    rw [mkTL_len] at e
    simp at e
    subst e
    exact heldStringS_nil w none 0 k
  · rw [mkTL_len]
    exact heldStringS_any w g 0 c n k hl hk0 hk hi
theorem heldByteS_lvk (w : World) (a : Option Addr) (n c k : Nat) (hk : k ≤ 100000000000000) (hl : n ≤ 1048576) (h : MarkB w (.slice a n c) k n) :
    Calls Tryz.prog 239 #[.slice a n c, .int .i64 (k : Int)] w fun e w' => e = .returned (.int .i64 ((k + n : Nat) : Int)) ∧ Below w.heap.size w w' := by
  rcases h with rfl | ⟨g, c', e, _, hc⟩
  · exact heldByteS_nil w a c k
  · simp only [Value.slice.injEq] at e
    obtain ⟨rfl, _, rfl⟩ := e
    exact (heldByteS_row w g n c k hl hk hc).mono fun _ _ ⟨h1, h2⟩ => ⟨h1, h2 ▸ Below.refl _ _⟩
/-! ### an entry -/
structure EntLV (w : World) (base : Nat) (x : Ent) (r : EntR) : Prop where
  h : HLV w (.slice r.ha x.hs.length r.hc) x.hs
  b : BLV w (.slice r.ba x.bl.length r.bc) x.bl
  t : TLV w (.slice r.ta x.ts.length r.tc) x.ts
  gh : ∀ g, (Value.slice r.ha x.hs.length r.hc).ownBlock = some g → base ≤ g
  gb : ∀ g, (Value.slice r.ba x.bl.length r.bc).ownBlock = some g → base ≤ g
  gt : ∀ g, (Value.slice r.ta x.ts.length r.tc).ownBlock = some g → base ≤ g
  n1 : ∀ g, (Value.slice r.ha x.hs.length r.hc).ownBlock = some g → (Value.slice r.ba x.bl.length r.bc).ownBlock ≠ some g
  n2 : ∀ g, (Value.slice r.ha x.hs.length r.hc).ownBlock = some g → (Value.slice r.ta x.ts.length r.tc).ownBlock ≠ some g
  n3 : ∀ g, (Value.slice r.ba x.bl.length r.bc).ownBlock = some g → (Value.slice r.ta x.ts.length r.tc).ownBlock ≠ some g
  hc : x.hs.length ≤ r.hc
  bc : x.bl.length ≤ r.bc
  tc : x.ts.length ≤ r.tc
def Flat (v : Value) : Prop := ∃ n c, v = .slice none n c ∨ ∃ g, v = .slice (some ⟨g, 0, none⟩) n c
theorem flat_ne {a b : Option Addr} {n c m d : Nat} (ha : Flat (.slice a n c)) (hb : Flat (.slice b m d)) (h : a = none ∨ a ≠ b) : ∀ g, (Value.slice a n c).ownBlock = some g → (Value.slice b m d).ownBlock ≠ some g := by
  intro g h1 h2
  obtain ⟨_, _, e | ⟨g1, e⟩⟩ := ha
  · simp only [Value.slice.injEq] at e
    obtain ⟨rfl, _⟩ := e
    cases h1
  · obtain ⟨_, _, f | ⟨g2, f⟩⟩ := hb
    · simp only [Value.slice.injEq] at f
      obtain ⟨rfl, _⟩ := f
      cases h2
    · simp only [Value.slice.injEq] at e f
      obtain ⟨rfl, _⟩ := e
      obtain ⟨rfl, _⟩ := f
      simp only [Value.ownBlock, Option.some.injEq] at h1 h2
      subst h1 h2
      rcases h with h | h
      · cases h
      · exact h rfl
theorem HLV.flat {w : World} {v : Value} {l : List Hdr} (h : HLV w v l) : Flat v := by
  rcases h with ⟨rfl, _⟩ | ⟨g, c, rfl, _⟩
  · exact ⟨_, _, .inl rfl⟩
  · exact ⟨_, _, .inr ⟨g, rfl⟩⟩
theorem BLV.flat {w : World} {v : Value} {l : List UInt8} (h : BLV w v l) : Flat v := by
  rcases h with ⟨rfl, _⟩ | ⟨g, c, rfl, _⟩
  · exact ⟨_, _, .inl rfl⟩
  · exact ⟨_, _, .inr ⟨g, rfl⟩⟩
theorem TLV.flat {w : World} {v : Value} {l : List ByteArray} (h : TLV w v l) : Flat v := by
  rcases h with ⟨rfl, _⟩ | ⟨g, c, rfl, _⟩
  · exact ⟨_, _, .inl rfl⟩
  · exact ⟨_, _, .inr ⟨g, rfl⟩⟩
theorem EntRow.lv {w : World} {base : Nat} {x : Ent} {r : EntR} (h : EntRow w base x r) : EntLV w base x r := by
  obtain ⟨h1, g1⟩ := RowH.lv h.h
  obtain ⟨h2, g2⟩ := RowB.lv h.b
  obtain ⟨h3, g3⟩ := RowT.lv h.t
  have i := h.in
  exact ⟨h1, h2, h3, g1, g2, g3, flat_ne h1.flat h2.flat h.n1, flat_ne h1.flat h3.flat h.n2, flat_ne h2.flat h3.flat h.n3, i.hc, i.bc, i.tc⟩
theorem EntLV.below {w w' : World} {base : Nat} {x : Ent} {r : EntR} (h : EntLV w base x r) (hb : Below w.heap.size w w') : EntLV w' base x r :=
  ⟨h.h.below hb, h.b.below hb, h.t.below hb, h.gh, h.gb, h.gt, h.n1, h.n2, h.n3, h.hc, h.bc, h.tc⟩
theorem EntLV.above {w w' : World} {base hi : Nat} {x : Ent} {r : EntR} (h : EntLV w base x r) (k : Above hi w w') (hh : hi ≤ base) : EntLV w' base x r := by
  refine ⟨?_, ?_, ?_, h.gh, h.gb, h.gt, h.n1, h.n2, h.n3, h.hc, h.bc, h.tc⟩
  · have g0 := h.gh
    rcases h.h with h | ⟨g, c, e, hg, hi, hf⟩
    · exact .inl h
    · have hge : base ≤ g := g0 g (by rw [e]; rfl)
      exact .inr ⟨g, c, e, Nat.lt_of_lt_of_le hg k.size, fun i r hr => by rw [k.cell g _ (by omega) hg, k.cell g _ (by omega) hg]; exact hi i r hr, fun o => by rw [k.frozen g o (by omega) hg, hf]⟩
  · have g0 := h.gb
    rcases h.b with h | ⟨g, c, e, hg, hi, hf⟩
    · exact .inl h
    · have hge : base ≤ g := g0 g (by rw [e]; rfl)
      exact .inr ⟨g, c, e, Nat.lt_of_lt_of_le hg k.size, fun i r hr => by rw [k.cell g _ (by omega) hg]; exact hi i r hr, fun o => by rw [k.frozen g o (by omega) hg, hf]⟩
  · have g0 := h.gt
    rcases h.t with h | ⟨g, c, e, hg, hi, hf⟩
    · exact .inl h
    · have hge : base ≤ g := g0 g (by rw [e]; rfl)
      exact .inr ⟨g, c, e, Nat.lt_of_lt_of_le hg k.size, fun i r hr => by rw [k.cell g _ (by omega) hg]; exact hi i r hr, fun o => by rw [k.frozen g o (by omega) hg, hf]⟩
theorem EntLV.in {w : World} {base : Nat} {x : Ent} {r : EntR} (h : EntLV w base x r) : EntIn w x r := by
  refine ⟨?_, ?_, ?_, h.hc, h.bc, h.tc⟩
  · rcases h.h with ⟨_, e⟩ | ⟨g, c, e, hg, hi, hf⟩
    · exact .inl e
    · simp only [Value.slice.injEq] at e
      exact .inr ⟨g, 0, e.1, hi⟩
  · rcases h.b with ⟨_, e⟩ | ⟨g, c, e, hg, hi, hf⟩
    · exact .inl e
    · simp only [Value.slice.injEq] at e
      exact .inr ⟨g, 0, e.1, hi⟩
  · rcases h.t with ⟨_, e⟩ | ⟨g, c, e, hg, hi, hf⟩
    · exact .inl e
    · simp only [Value.slice.injEq] at e
      exact .inr ⟨g, 0, e.1, hi⟩
/-- What an entry's lists hold once they were marked. -/
structure EntHeld (w : World) (x : Ent) (r : EntR) : Prop where
  h : HLV w (.slice r.ha x.hs.length r.hc) (mkHL 1 x.hs.length)
  b : MarkB w (.slice r.ba x.bl.length r.bc) (1 + 2 * x.hs.length) x.bl.length
  t : TLV w (.slice r.ta x.ts.length r.tc) (mkTL (1 + 2 * x.hs.length + x.bl.length) x.ts.length)
theorem EntHeld.below {w w' : World} {x : Ent} {r : EntR} (h : EntHeld w x r) (hb : Below w.heap.size w w') : EntHeld w' x r := ⟨h.h.below hb, h.b.keep hb, h.t.below hb⟩
theorem HAV.above {v : Value} {hi : Nat} {w w' : World} (h : HAV v w w') (hv : ∀ g, v.ownBlock = some g → g < hi) : Above hi w w' :=
  ⟨h.size, fun b o h1 h2 => h.cell b o h2 (fun e => by have := hv b e; omega), fun b o h1 h2 => h.frozen b o h2 (fun e => by have := hv b e; omega)⟩
theorem BLV.block_lt {w : World} {v : Value} {l : List UInt8} (h : BLV w v l) : ∀ b, v.ownBlock = some b → b < w.heap.size := by
  rcases h with ⟨rfl, _⟩ | ⟨g, c, rfl, hg, _⟩
  · intro b hb; cases hb
  · intro b hb; simp only [Value.ownBlock, Option.some.injEq] at hb; omega
structure EntLt (hi : Nat) (x : Ent) (r : EntR) : Prop where
  h : ∀ g, (Value.slice r.ha x.hs.length r.hc).ownBlock = some g → g < hi
  b : ∀ g, (Value.slice r.ba x.bl.length r.bc).ownBlock = some g → g < hi
  t : ∀ g, (Value.slice r.ta x.ts.length r.tc).ownBlock = some g → g < hi
theorem EntLV.lts {w : World} {base : Nat} {x : Ent} {r : EntR} (h : EntLV w base x r) : EntLt w.heap.size x r := ⟨HLV.block_lt h.h, h.b.block_lt, h.t.block_lt⟩
theorem markLists (W : World) (base hi : Nat) (x : Ent) (r : EntR) (f1 : x.hs.length ≤ 1048576) (f2 : x.bl.length ≤ 1048576) (f3 : x.ts.length ≤ 1048576) (hw : base ≤ W.heap.size) (h : EntLV W base x r) (h0 : EntLt hi x r) :
    Calls Tryz.prog 143 #[.slice r.ha x.hs.length r.hc, .int .i64 1] W fun e w1 => e = .returned (.int .i64 ((1 + 2 * x.hs.length : Nat) : Int)) ∧ (Below base W w1 ∧ Above hi W w1) ∧ 
    Calls Tryz.prog 202 #[.slice r.ba x.bl.length r.bc, .int .i64 ((1 + 2 * x.hs.length : Nat) : Int)] w1 fun e w2 => e = .returned (.int .i64 ((1 + 2 * x.hs.length + x.bl.length : Nat) : Int)) ∧ (Below base w1 w2 ∧ Above hi w1 w2) ∧ 
    Calls Tryz.prog 65 #[.slice r.ta x.ts.length r.tc, .int .i64 ((1 + 2 * x.hs.length + x.bl.length : Nat) : Int)] w2 fun e w3 => e = .returned (.int .i64 ((1 + 2 * x.hs.length + x.bl.length + x.ts.length : Nat) : Int)) ∧ (Below base w2 w3 ∧ Above hi w2 w3) ∧ EntHeld w3 x r := by
  have ne : ∀ {u v : Value}, (∀ g, u.ownBlock = some g → v.ownBlock ≠ some g) → ∀ g, v.ownBlock = some g → u.ownBlock ≠ some g := fun hh g h1 h2 => hh g h2 h1
  refine (markHeaderS_lvk W _ x.hs 1 (by omega) (by omega) f1 h.h base h.gh (by omega)).mono ?_
  rintro e w1 ⟨rfl, a1, v1, b1⟩
  refine ⟨rfl, ⟨b1, v1.above h0.h⟩, ?_⟩
  have s1 := b1.size
  refine (markByteS_lvk w1 _ x.bl _ (by omega) f2 (h.b.av v1 (ne h.n1)) base h.gb (by omega)).mono ?_
  rintro e w2 ⟨rfl, a2, v2, b2⟩
  refine ⟨rfl, ⟨b2, v2.above h0.b⟩, ?_⟩
  have s2 := b2.size
  refine (markStringS_lvk w2 _ x.ts _ (by omega) (by omega) f3 ((h.t.av v1 (ne h.n2)).av v2 (ne h.n3)) base h.gt (by omega)).mono ?_
  rintro e w3 ⟨rfl, a3, v3, b3⟩
  exact ⟨rfl, ⟨b3, v3.above h0.t⟩, ⟨(a1.av v2 h.n1).av v3 h.n2, a2.hav v3 h.n3, a3⟩⟩
theorem heldLists (w : World) (x : Ent) (r : EntR) (f1 : x.hs.length ≤ 1048576) (f2 : x.bl.length ≤ 1048576) (f3 : x.ts.length ≤ 1048576) (h : EntHeld w x r) :
    Calls Tryz.prog 197 #[.slice r.ha x.hs.length r.hc, .int .i64 1] w fun e w1 => e = .returned (.int .i64 ((1 + 2 * x.hs.length : Nat) : Int)) ∧ Below w.heap.size w w1 ∧
    Calls Tryz.prog 239 #[.slice r.ba x.bl.length r.bc, .int .i64 ((1 + 2 * x.hs.length : Nat) : Int)] w1 fun e w2 => e = .returned (.int .i64 ((1 + 2 * x.hs.length + x.bl.length : Nat) : Int)) ∧ Below w1.heap.size w1 w2 ∧
    Calls Tryz.prog 193 #[.slice r.ta x.ts.length r.tc, .int .i64 ((1 + 2 * x.hs.length + x.bl.length : Nat) : Int)] w2 fun e w3 => e = .returned (.int .i64 ((1 + 2 * x.hs.length + x.bl.length + x.ts.length : Nat) : Int)) ∧ Below w2.heap.size w2 w3 := by
  refine (heldHeaderS_lvk w _ x.hs.length 1 (by omega) (by omega) f1 h.h).mono ?_
  rintro e w1 ⟨rfl, b1⟩
  refine ⟨rfl, b1, ?_⟩
  have h1 := h.below b1
  refine (heldByteS_lvk w1 _ _ _ _ (by omega) f2 h1.b).mono ?_
  rintro e w2 ⟨rfl, b2⟩
  refine ⟨rfl, b2, ?_⟩
  have h2 := h1.below b2
  exact heldStringS_lvk w2 _ _ _ (by omega) (by omega) f3 h2.t
end Go.Proofs.YtlbagfaiiileoaaGreatDoor
/-
  Rows of head lines, of bytes and of texts, as facts that hang on a stretch of blocks.
-/
namespace Go.Proofs.YtlbagfaiiileoaaGreatDoor
open Go.ChangeShapes Go.WideShapes Go.ChangeAt Go.RowKit Go.Sort
def BL (v : Value) (l : List UInt8) (lo hi : Nat) (X : World) : Prop := BLV X v l ∧ ∀ b, v.ownBlock = some b → lo ≤ b ∧ b < hi
def TL (v : Value) (l : List ByteArray) (lo hi : Nat) (X : World) : Prop := TLV X v l ∧ ∀ b, v.ownBlock = some b → lo ≤ b ∧ b < hi
def MB (v : Value) (k n lo hi : Nat) (X : World) : Prop := MarkB X v k n ∧ ∀ b, v.ownBlock = some b → lo ≤ b ∧ b < hi
theorem BL.dep (v : Value) (l : List UInt8) (lo hi : Nat) : Dep lo hi (BL v l lo hi) := fun X X' h1 h2 hc k => by
  refine ⟨?_, k.2⟩
  rcases k.1 with e | ⟨g, c, rfl, hg, hi', hf⟩
  · exact .inl e
  · obtain ⟨b1, b2⟩ := k.2 g rfl
    exact .inr ⟨g, c, rfl, Nat.lt_of_lt_of_le hg h2, fun i r hr => by rw [(hc g _ b1 b2).1]; exact hi' i r hr, fun o => by rw [(hc g o b1 b2).2, hf]⟩
theorem TL.dep (v : Value) (l : List ByteArray) (lo hi : Nat) : Dep lo hi (TL v l lo hi) := fun X X' h1 h2 hc k => by
  refine ⟨?_, k.2⟩
  rcases k.1 with e | ⟨g, c, rfl, hg, hi', hf⟩
  · exact .inl e
  · obtain ⟨b1, b2⟩ := k.2 g rfl
    exact .inr ⟨g, c, rfl, Nat.lt_of_lt_of_le hg h2, fun i r hr => by rw [(hc g _ b1 b2).1]; exact hi' i r hr, fun o => by rw [(hc g o b1 b2).2, hf]⟩
theorem MB.dep (v : Value) (k n lo hi : Nat) : Dep lo hi (MB v k n lo hi) := fun X X' h1 h2 hc q => by
  refine ⟨?_, q.2⟩
  rcases q.1 with e | ⟨g, c, rfl, hg, hi'⟩
  · exact .inl e
  · obtain ⟨b1, b2⟩ := q.2 g rfl
    exact .inr ⟨g, c, rfl, Nat.lt_of_lt_of_le hg h2, fun i hi2 => by rw [(hc g _ b1 b2).1]; exact hi' i hi2⟩
theorem Dep.and {lo hi : Nat} {A B : World → Prop} (a : Dep lo hi A) (b : Dep lo hi B) : Dep lo hi (fun X => A X ∧ B X) := fun X X' h1 h2 hc k => ⟨a X X' h1 h2 hc k.1, b X X' h1 h2 hc k.2⟩
theorem Dep.const {lo hi : Nat} (p : Prop) : Dep lo hi (fun _ => p) := fun _ _ _ _ _ k => k
theorem BL.wide {v : Value} {l : List UInt8} {lo hi lo' hi' : Nat} {X : World} (k : BL v l lo hi X) (h1 : lo' ≤ lo) (h2 : hi ≤ hi') : BL v l lo' hi' X := ⟨k.1, fun b hb => by have := k.2 b hb; omega⟩
theorem TL.wide {v : Value} {l : List ByteArray} {lo hi lo' hi' : Nat} {X : World} (k : TL v l lo hi X) (h1 : lo' ≤ lo) (h2 : hi ≤ hi') : TL v l lo' hi' X := ⟨k.1, fun b hb => by have := k.2 b hb; omega⟩
theorem RowB.at {w : World} {base : Nat} {v : Value} {l : List UInt8} (h : RowB w base v l) : At base w.heap.size (BL v l) w :=
  ⟨Nat.le_refl _, BL.dep _ _ _ _, h.lv.1, fun b hb => ⟨h.lv.2 b hb, (World.ownsRow.lt h b hb).2⟩⟩
theorem RowT.at {w : World} {base : Nat} {v : Value} {l : List ByteArray} (h : RowT w base v l) : At base w.heap.size (TL v l) w :=
  ⟨Nat.le_refl _, TL.dep _ _ _ _, h.lv.1, fun b hb => ⟨h.lv.2 b hb, (World.ownsRow.lt h b hb).2⟩⟩
theorem BL.in {v : Value} {l : List UInt8} {lo hi : Nat} {X : World} {a : Option Addr} {n c : Nat} (k : BL v l lo hi X) (e : v = .slice a n c) : n = l.length ∧ BIn X a l := by
  subst e
  rcases k.1 with ⟨e, rfl⟩ | ⟨g, c', e, _, h, _⟩
  · simp only [Value.slice.injEq] at e
    obtain ⟨rfl, rfl, rfl⟩ := e
    exact ⟨rfl, .inl rfl⟩
  · simp only [Value.slice.injEq] at e
    obtain ⟨rfl, rfl, rfl⟩ := e
    exact ⟨rfl, .inr ⟨g, 0, rfl, h⟩⟩
theorem TL.in {v : Value} {l : List ByteArray} {lo hi : Nat} {X : World} {a : Option Addr} {n c : Nat} (k : TL v l lo hi X) (e : v = .slice a n c) : n = l.length ∧ TIn X a l := by
  subst e
  rcases k.1 with ⟨e, rfl⟩ | ⟨g, c', e, _, h, _⟩
  · simp only [Value.slice.injEq] at e
    obtain ⟨rfl, rfl, rfl⟩ := e
    exact ⟨rfl, .inl rfl⟩
  · simp only [Value.slice.injEq] at e
    obtain ⟨rfl, rfl, rfl⟩ := e
    exact ⟨rfl, .inr ⟨g, 0, rfl, h⟩⟩
/-- No block is both's. -/
def Ap (v u : Value) : Prop := ∀ b, v.ownBlock = some b → u.ownBlock ≠ some b
theorem HAV.wi {v : Value} {X X' : World} (h : HAV v X X') {lo hi : Nat} (hv : ∀ b, v.ownBlock = some b → lo ≤ b ∧ b < hi) : Wi lo hi X X' :=
  ⟨h.size, fun b o hb hd => h.cell b o hb (fun e => by have := hv b e; omega), fun b o hb hd => h.frozen b o hb (fun e => by have := hv b e; omega)⟩
/-! ### marking -/
theorem markH_at {X : World} {lo hi k : Nat} {v : Value} {l : List Hdr} (hk0 : 1 ≤ k) (hk : k ≤ 100000000000000) (hl : l.length ≤ 1048576) (c : At lo hi (HL v l) X) (base : Nat) (hb : base ≤ lo) (hbX : base ≤ X.heap.size) :
    Calls Tryz.prog 143 #[v, .int .i64 (k : Int)] X fun e w' => e = .returned (.int .i64 ((k + 2 * l.length : Nat) : Int)) ∧ (At lo hi (HL v (mkHL k l.length)) w' ∧ HAV v X w') ∧ Below base X w' :=
  (markHeaderS_lvk X v l k hk0 hk hl c.val.1 base (fun b hb' => Nat.le_trans hb (c.val.2 b hb').1) hbX).mono fun _ _ ⟨h1, h2, h3, h4⟩ => ⟨h1, ⟨⟨Nat.le_trans c.le h3.size, HL.dep _ _ _ _, h2, c.val.2⟩, h3⟩, h4⟩
theorem markB_at {X : World} {lo hi k : Nat} {v : Value} {l : List UInt8} (hk : k ≤ 100000000000000) (hl : l.length ≤ 1048576) (c : At lo hi (BL v l) X) (base : Nat) (hb : base ≤ lo) (hbX : base ≤ X.heap.size) :
    Calls Tryz.prog 202 #[v, .int .i64 (k : Int)] X fun e w' => e = .returned (.int .i64 ((k + l.length : Nat) : Int)) ∧ (At lo hi (MB v k l.length) w' ∧ HAV v X w') ∧ Below base X w' :=
  (markByteS_lvk X v l k hk hl c.val.1 base (fun b hb' => Nat.le_trans hb (c.val.2 b hb').1) hbX).mono fun _ _ ⟨h1, h2, h3, h4⟩ => ⟨h1, ⟨⟨Nat.le_trans c.le h3.size, MB.dep _ _ _ _ _, h2, c.val.2⟩, h3⟩, h4⟩
theorem markT_at {X : World} {lo hi k : Nat} {v : Value} {l : List ByteArray} (hk0 : 1 ≤ k) (hk : k ≤ 100000000000000) (hl : l.length ≤ 1048576) (c : At lo hi (TL v l) X) (base : Nat) (hb : base ≤ lo) (hbX : base ≤ X.heap.size) :
    Calls Tryz.prog 65 #[v, .int .i64 (k : Int)] X fun e w' => e = .returned (.int .i64 ((k + l.length : Nat) : Int)) ∧ (At lo hi (TL v (mkTL k l.length)) w' ∧ HAV v X w') ∧ Below base X w' :=
  (markStringS_lvk X v l k hk0 hk hl c.val.1 base (fun b hb' => Nat.le_trans hb (c.val.2 b hb').1) hbX).mono fun _ _ ⟨h1, h2, h3, h4⟩ => ⟨h1, ⟨⟨Nat.le_trans c.le h3.size, TL.dep _ _ _ _, h2, c.val.2⟩, h3⟩, h4⟩
end Go.Proofs.YtlbagfaiiileoaaGreatDoor
